/-
  The walk of the statement DecodeShorter: of what is decoded encode tells no more bytes than it had, and these are decoded as the same. Condition, as the card has it: the table utf.shapes lies as the program's text lays it.
-/
import Derived.Test.YtikjnbognjicdaaDoorDsh
import Derived.Test.YtikjnbognjicdaaDoorBak6W
namespace Go.Proofs.YtikjnbognjicdaaDoor.Dec
set_option maxRecDepth 100000
open Go.RowKit Go.Proofs.YtikjnbognjicdaaDoor.Utf Go.Proofs.YtikjnbognjicdaaDoor.Val Go.Proofs.YtikjnbognjicdaaDoor.Enc V

theorem dec_none_v {b : List Nat} {v : V} {m x : Nat} (h : decD b = (v, m, x)) (hx : x ≠ 0) : v = zeroV ∧ m = 0 ∧ (x = 6 ∨ x = 7) := by
  rcases dec_ways b with ⟨v', it, r, hv, hok, hd⟩ | ⟨_, hd⟩ | ⟨_, hd⟩
  · rw [hd] at h
    simp only [Prod.mk.injEq] at h
    omega
  · rw [hd] at h
    simp only [Prod.mk.injEq] at h
    obtain ⟨rfl, rfl, rfl⟩ := h
    exact ⟨rfl, rfl, .inl rfl⟩
  · rw [hd] at h
    simp only [Prod.mk.injEq] at h
    obtain ⟨rfl, rfl, rfl⟩ := h
    exact ⟨rfl, rfl, .inr rfl⟩
theorem dec_some_v {b : List Nat} {v : V} {m : Nat} (h : decD b = (v, m, 0)) (hb : b.length ≤ 8192) : okB v = true ∧ bulk v ≤ 33554432 ∧ m ≤ b.length ∧ ((∀ x ∈ b, x < 256) → Enc.Good v → (lay (plan v)).length ≤ m) := by
  rcases dec_ways b with ⟨v', it, r, hv, hok, hd⟩ | ⟨_, hd⟩ | ⟨_, hd⟩
  · rw [hd] at h
    simp only [Prod.mk.injEq, and_true] at h
    obtain ⟨rfl, rfl⟩ := h
    obtain ⟨⟨h1, h2⟩, h3⟩ := val_fit hv
    have h4 : items v' ≤ 1024 := by
      have hok2 := hok
      unfold okB at hok2
      simp only [Bool.and_eq_true, decide_eq_true_eq] at hok2
      exact hok2.1.1
    have h5 : items v' * (b.length + 1) ≤ 1024 * 8193 := Nat.mul_le_mul h4 (by omega)
    exact ⟨hok, by omega, by omega, fun hb hg => by have := val_sh hv hb hg hok; omega⟩
  · rw [hd] at h; simp at h
  · rw [hd] at h; simp at h
end Go.Proofs.YtikjnbognjicdaaDoor.Dec
namespace Go.Proofs.YtikjnbognjicdaaDoor.decodeShorter
set_option maxRecDepth 100000
open Go.RowKit Go.Proofs.YtikjnbognjicdaaDoor.Utf Go.Proofs.YtikjnbognjicdaaDoor.Val Go.Proofs.YtikjnbognjicdaaDoor.Dec V

set_option maxHeartbeats 8000000 in
theorem walk (A : Option Addr) (n c : Nat) (b : List Nat) (W : World) (hT : Tab W) (hr : Rd .u8 256 W W.heap.size A n b) (hc : n ≤ c) (_ : c ≤ maxLen) : Calls Tryd.prog 5 #[.slice A n c] W (Val.GivesB true W) := by
  by_cases hbig : 8192 < n
  · have hd : (n : Int) > 8192 := by omega
    clear hbig
    go_enter Tryd.func5, Tryd.ntmps5
    go_wp2_with ((go_at_call 17; refine (Dec.works_any W hT).mono ?_; rintro e w1 ⟨rfl, hb1⟩))
    go_ret
    exact ⟨rfl, hb1⟩
  have hd : ¬ (n : Int) > 8192 := by omega
  have hbn := hr.len
  obtain ⟨⟨v, m, x⟩, hdec⟩ : ∃ r, decD b = r := ⟨_, rfl⟩
  have hA := dec_any hr hc (by omega) hT
  rw [hdec] at hA
  by_cases hx : x = 0
  · subst hx
    obtain ⟨hok, hbulk, hmb, hsh⟩ := dec_some_v hdec (by omega)
    have hsh := hsh hr.lim
    have HOK := Lib.hid hok
    have HSH := Lib.hid hsh
    have HBK := Lib.hid hbulk
    have hmn : ¬ (m : Int) > (n : Int) := by omega
    have HN : Hid (n ≤ 8192 ∧ m ≤ n) := Lib.hid (by omega)
    clear hok hsh hbulk hmb hbig hbn hdec
    go_enter Tryd.func5, Tryd.ntmps5
    go_wp2_with fail
    refine hA.mono ?_
    rintro e w1 ⟨A1, l1, c1, rfl, hk, hn, hnw, hb1⟩
    have S1 : Enc.St1 W (w1.alloc (.cells #[.int .u8 (v.kind : Int), .int .u64 (v.num : Int), .string v.text, .slice A1 l1 c1] 25)) w1.heap.size v.kind v.num v.text v.kids A1 l1 c1 := ⟨Box.new w1 _ _ _ _, hnw.kd.alloc _, hT.call (hb1.alloc hb1.size _), hb1.alloc hb1.size _⟩
    obtain ⟨g1, hg1⟩ : ∃ g, w1.heap.size = g := ⟨_, rfl⟩
    obtain ⟨v1, hv1⟩ : ∃ w, w1.alloc (.cells #[.int .u8 (v.kind : Int), .int .u64 (v.num : Int), .string v.text, .slice A1 l1 c1] 25) = w := ⟨_, rfl⟩
    rw [hv1, hg1] at S1
    have hg : Enc.Good v := by
      have := Enc.good_of (k := v.kind) (n := v.num) (t := v.text) (ks := v.kids) (by rw [← eta]; exact HOK.out) hn hnw.kd (by rw [← eta]; have := HBK.out; omega)
      rwa [← eta] at this
    have hle := HSH.out hg
    obtain ⟨L, hL⟩ : ∃ L, (Enc.lay (Enc.plan v)).length = L := ⟨_, rfl⟩
    rw [hL] at hle
    have hLm : ¬ (L : Int) > (m : Int) := by omega
    have HL := Lib.hid hL
    have HLE := Lib.hid hle
    have HG := Lib.hid hg
    have H1 := Lib.hid S1
    obtain ⟨a0, a1, a2, a3, _⟩ := S1.box.all
    clear hA hnw hb1 S1 hg hL hle
    go_wp2_with fail
    refine (Enc.encv_yes v.kind v.num v.text v.kids A1 l1 c1 v1 (by rw [← eta]; exact HOK.out) (by rw [← eta]; exact HBK.out) hk hn H1.out.kd H1.out.tab).mono ?_
    rintro e w2 ⟨A2, m2, c2, rfl, ho2, hb2⟩
    rw [← eta] at ho2
    have hm2 : m2 = L := by rw [← HL.out]; exact ho2.len.symm
    subst hm2
    have H2 := Lib.hid (H1.out.call hb2)
    have HO2 := Lib.hid ho2
    obtain ⟨b0, b1, b2, b3, _⟩ := H2.out.box.all
    clear ho2 hb2
    go_wp2_with fail
    refine (vright_any v.kind v.num v.text v.kids A1 l1 c1 w2 (by have := HBK.out; have := kids_bulk v; omega) (by have := HBK.out; have := text_bulk v; omega) hn H2.out.kd H2.out.tab).mono ?_
    rw [← eta, HOK.out]
    rintro e w3 ⟨rfl, hb3⟩
    have H3 := Lib.hid (H2.out.call hb3)
    have HO3 := Lib.hid (HO2.out.below hb3)
    clear hb3
    go_wp2_with fail
    have hdec := Dec.dec_lays (X := []) HG.out HOK.out (by rw [List.append_nil]; exact HO3.out.rd) HO3.out.cap.1 (by have := HLE.out; have := HN.out; omega) H3.out.tab
    rw [HL.out] at hdec
    refine hdec.mono ?_
    clear hdec
    rintro e w5 ⟨A5, l5, c5, rfl, hk5, hb5⟩
    have hx6 := Box.new w5 (.int .u8 (v.kind : Int)) (.int .u64 (v.num : Int)) (.string v.text) (.slice A5 l5 c5)
    have hk6 := hk5.alloc (.cells #[.int .u8 (v.kind : Int), .int .u64 (v.num : Int), .string v.text, .slice A5 l5 c5] 25)
    have H6 := Lib.hid ((H3.out.call hb5).alloc (.cells #[.int .u8 (v.kind : Int), .int .u64 (v.num : Int), .string v.text, .slice A5 l5 c5] 25))
    obtain ⟨g6, hg6⟩ : ∃ g, w5.heap.size = g := ⟨_, rfl⟩
    obtain ⟨w6, hw6⟩ : ∃ x, w5.alloc (.cells #[.int .u8 (v.kind : Int), .int .u64 (v.num : Int), .string v.text, .slice A5 l5 c5] 25) = x := ⟨_, rfl⟩
    rw [hw6] at hx6 hk6 H6
    rw [hg6] at hx6
    obtain ⟨p0, p1, p2, p3, _⟩ := hx6.all
    obtain ⟨q0, q1, q2, q3, _⟩ := H6.out.box.all
    have HK6 := Lib.hid hk6
    clear hx6 hk6 hk5 hb5
    go_wp2_with fail
    refine (Dec.same_w (v := v) (by have := HBK.out; have := kids_bulk v; omega) H6.out.kd HK6.out).mono ?_
    rintro e w7 ⟨rfl, hb7⟩
    have H7 := Lib.hid (H6.out.call hb7)
    clear hb7
    go_wp2_with fail
    refine (Dec.works_any _ H7.out.tab).mono ?_
    rintro e w8 ⟨rfl, hb8⟩
    go_wp2_with fail
    go_ret
    exact ⟨rfl, below_next H7.out.low hb8⟩
  · obtain ⟨rfl, rfl, hx67⟩ := dec_none_v hdec hx
    have hA2 : Calls Tryd.prog 18 #[.slice A n c] W fun e w' => ∃ A c, e = .returned (.tuple #[.agg #[.int .u8 0, .int .u64 0, .string ⟨#[]⟩, .slice A 0 c], .int .i64 0, .int .i64 (x : Int)]) ∧ Below W.heap.size W w' := hA.mono fun e w' he => GivesD.leaf he
    clear hA hdec hx hbig hbn
    rcases hx67 with rfl | rfl
    all_goals
      go_enter Tryd.func5, Tryd.ntmps5
      go_wp2_with fail
      refine hA2.mono ?_
      rintro e w1 ⟨A1, c1, rfl, hb1⟩
      have hB1 := hb1.alloc hb1.size (.cells #[.int .u8 0, .int .u64 0, .string ⟨#[]⟩, .slice A1 0 c1] 25)
      have hx1 := Box.new w1 (.int .u8 0) (.int .u64 0) (.string ⟨#[]⟩) (.slice A1 0 c1)
      obtain ⟨g1, hg1⟩ : ∃ g, w1.heap.size = g := ⟨_, rfl⟩
      obtain ⟨v1, hv1⟩ : ∃ w, w1.alloc (.cells #[.int .u8 0, .int .u64 0, .string ⟨#[]⟩, .slice A1 0 c1] 25) = w := ⟨_, rfl⟩
      rw [hv1] at hB1 hx1
      rw [hg1] at hx1
      obtain ⟨a0, a1, a2, a3, _⟩ := hx1.all
      clear hb1 hx1
      go_wp2_with fail
      refine (Dec.same_z A1 c1 v1).mono ?_
      rintro e w2 ⟨rfl, hb2⟩
      have hB2 := below_next hB1 hb2
      go_wp2_with fail
      refine (Dec.works_any _ (hT.call hB2)).mono ?_
      rintro e w3 ⟨rfl, hb3⟩
      have hB3 := below_next hB2 hb3
      go_wp2_with fail
      go_ret
      exact ⟨rfl, hB3⟩
end Go.Proofs.YtikjnbognjicdaaDoor.decodeShorter
