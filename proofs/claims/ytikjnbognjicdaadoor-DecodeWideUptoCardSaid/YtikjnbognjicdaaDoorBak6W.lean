/-
  The walk of the statement DecodeBack: what encode tells of a value is decoded as it, with anything behind it; cut anywhere it is short. Conditions: a value of bulk at most 2^20; as the card has it, the table utf.shapes lies as the program's text lays it.
-/
import Derived.Test.YtikjnbognjicdaaDoorDbk
import Derived.Test.YtikjnbognjicdaaDoorDwk
import Derived.Test.YtikjnbognjicdaaDoorBeg
namespace Go.Proofs.YtikjnbognjicdaaDoor.Dec
set_option maxRecDepth 100000
open Go.RowKit Go.Proofs.YtikjnbognjicdaaDoor.Utf Go.Proofs.YtikjnbognjicdaaDoor.Val Go.Proofs.YtikjnbognjicdaaDoor.Enc V

theorem own_cut {b : List Nat} {v : V} {n : Nat} (h : decD b = (v, n, 0)) {j : Nat} (hj : j < n) : decD (b.take j) = (zeroV, 0, 7) := by
  have hb : b = b.take j ++ b.drop j := (List.take_append_drop j b).symm
  rcases dec_ways (b.take j) with ⟨v2, it2, r2, hv2, hok2, hd2⟩ | ⟨_, hd2⟩ | ⟨_, hd2⟩
  · obtain ⟨_, h2, h3, _⟩ := own_ok hd2
    have h4 := h3 (b.drop j)
    rw [← hb, h] at h4
    simp only [Prod.mk.injEq, and_true] at h4
    rw [List.length_take] at h2 h4
    omega
  · have h4 := own_form hd2 (b.drop j)
    rw [← hb, h] at h4
    simp at h4
  · exact hd2
/-- A value that decode.Value answers, its memory too. -/
def GivesW (v : V) (mi xi : Int) (w : World) (e : Ending) (w' : World) : Prop :=
  ∃ A l c, e = .returned (.tuple #[.agg #[.int .u8 (v.kind : Int), .int .u64 (v.num : Int), .string v.text, .slice A l c], .int .i64 mi, .int .i64 xi]) ∧ Kd w' v.kids A l c ∧ Below w.heap.size w w'
theorem dec_lays {w : World} {A : Option Addr} {n c : Nat} {v : V} {X : List Nat} (hg : Enc.Good v) (hok : okB v = true) (h : Rd .u8 256 w w.heap.size A n (lay (plan v) ++ X)) (hc : n ≤ c) (hn : n ≤ 1099511627776) (ht : Tab w) :
    Calls Tryd.prog 18 #[.slice A n c] w (GivesW v ((lay (plan v)).length : Int) 0 w) := by
  have hA := dec_wide h hc hn ht fun v' it r hv _ => by
    rw [val_back hg hok X] at hv
    simp only [Except.ok.injEq, Prod.mk.injEq] at hv
    obtain ⟨rfl, _, _⟩ := hv
    have := hg.2.2
    omega
  rw [dec_lay hg hok X] at hA
  refine hA.mono fun e w' he => ?_
  obtain ⟨A, l, c, rfl, _, _, hk, hb⟩ := he
  exact ⟨A, l, c, rfl, hk.kd, hb⟩
theorem dec_cut {w : World} {A : Option Addr} {n c j : Nat} {v : V} (hg : Enc.Good v) (hok : okB v = true) (hj : j < (lay (plan v)).length) (h : Rd .u8 256 w w.heap.size A n ((lay (plan v)).take j)) (hc : n ≤ c) (hn : n ≤ 1099511627776) (ht : Tab w) :
    Calls Tryd.prog 18 #[.slice A n c] w fun e w' => ∃ A c, e = .returned (.tuple #[.agg #[.int .u8 0, .int .u64 0, .string ⟨#[]⟩, .slice A 0 c], .int .i64 0, .int .i64 7]) ∧ Below w.heap.size w w' := by
  have hd : decD ((lay (plan v)).take j) = (zeroV, 0, 7) := own_cut (v := v) (n := (lay (plan v)).length) (by have := dec_lay hg hok []; rwa [List.append_nil] at this) hj
  have hA := dec_wide h hc hn ht fun v' it r hv _ => by
    rcases dec_ways ((lay (plan v)).take j) with ⟨v2, it2, r2, hv2, hok2, hd2⟩ | ⟨_, hd2⟩ | ⟨hs, _⟩
    · rw [hd2] at hd; simp at hd
    · rw [hd2] at hd; simp at hd
    · rw [hv] at hs; cases hs
  rw [hd] at hA
  exact hA.mono fun e w' he => GivesD.leaf he
theorem lay_pos {v : V} (h : mayB v = true) : 0 < (lay (plan v)).length := by
  rw [lay_split h]
  simp
  omega
theorem same_w {v : V} {A A' : Option Addr} {l c l' c' : Nat} {w : World} (hN : bulkL v.kids ≤ 1073741824) (h : Kd w v.kids A l c) (h' : Kd w v.kids A' l' c') :
    Calls Tryd.prog 19 #[.agg #[.int .u8 (v.kind : Int), .int .u64 (v.num : Int), .string v.text, .slice A l c], .agg #[.int .u8 (v.kind : Int), .int .u64 (v.num : Int), .string v.text, .slice A' l' c']] w (Val.GivesB true w) := by
  have := vsame_any v.kind v.num v.text v.kids A l c v.kind v.num v.text v.kids A' l' c' w hN h h'
  rwa [same_self] at this
theorem same_z (A : Option Addr) (c : Nat) (w : World) : Calls Tryd.prog 19 #[.agg #[.int .u8 0, .int .u64 0, .string ⟨#[]⟩, .slice A 0 c], .agg #[.int .u8 0, .int .u64 0, .string ⟨#[]⟩, .slice none 0 0]] w (Val.GivesB true w) :=
  vsame_any 0 0 ⟨#[]⟩ [] A 0 c 0 0 ⟨#[]⟩ [] none 0 0 w (by decide) (Kd.none_ _ _ _) (Kd.none_ _ _ _)
theorem kid_one {w : World} {k n : Nat} {t : ByteArray} {ks : List V} {A : Option Addr} {l c : Nat} (hk : k < 256) (hn : n < 18446744073709551616) (hK : Kd w ks A l c) : Kd (w.alloc (.cells #[.int .u8 k, .int .u64 n, .string t, .slice A l c] 25)) [.mk k n t ks] (some ⟨w.heap.size, 0, none⟩) 1 1 := by
  refine ⟨rfl, Nat.le_refl _, fun _ => ⟨w.heap.size, 0, rfl, by simp, fun h => (by cases h), ?_⟩⟩
  exact ⟨repV_iff.2 ⟨A, l, c, by simp, by simp, by simp, by simp, hk, hn, hK.alloc _⟩, trivial⟩
end Go.Proofs.YtikjnbognjicdaaDoor.Dec
namespace Go.Proofs.YtikjnbognjicdaaDoor.decodeBack
set_option maxRecDepth 100000
open Go.RowKit Go.Proofs.YtikjnbognjicdaaDoor.Utf Go.Proofs.YtikjnbognjicdaaDoor.Val Go.Proofs.YtikjnbognjicdaaDoor.Dec V

set_option maxHeartbeats 8000000 in
theorem walk (k n : Nat) (t : ByteArray) (ks : List V) (A : Option Addr) (l c : Nat) (A' : Option Addr) (n' c' : Nat) (b' : List Nat) (X : Nat) (w : World) (ht : Tab w) (hN : bulk (.mk k n t ks) ≤ 1048576) (hk : k < 256) (hn : n < 18446744073709551616) (hK : Kd w ks A l c)
    (hr' : Rd .u8 256 w w.heap.size A' n' b') (_ : n' ≤ c') (_ : c' ≤ maxLen) (_ : X < 65536) :
    Calls Tryd.prog 4 #[.agg #[.int .u8 (k : Int), .int .u64 (n : Int), .string t, .slice A l c], .slice A' n' c', .int .u16 (X : Int)] w (Val.GivesB true w) := by
  have hB : Below w.heap.size w (w.alloc (.cells #[.int .u8 (k : Int), .int .u64 (n : Int), .string t, .slice A l c] 25)) := (Below.refl _ _).alloc (Nat.le_refl _) _
  have B1 := Box.new w (.int .u8 (k : Int)) (.int .u64 (n : Int)) (.string t) (.slice A l c)
  have hK1 := hK.call hB
  have hKL := kid_one (t := t) hk hn hK1
  obtain ⟨p, hp⟩ : ∃ p, decide (8192 < bigL [V.mk k n t ks]) = p := ⟨_, rfl⟩
  have HL := large_any _ _ 1 1 _ (by simp only [bulkL]; omega) hKL
  rw [hp, World.size_alloc] at HL
  have S0 : Enc.St1 w _ w.heap.size k n t ks A l c := (Enc.St1.mk B1 hK1 (ht.call hB) hB).alloc (.cells #[.int .u8 (k : Int), .int .u64 (n : Int), .string t, .slice A l c] 25)
  have HLH := Lib.hid HL
  have HS := Lib.hid S0
  have hnl : (V.mk k n t ks).bulk ≤ 33554432 := by omega
  have HG := Lib.hid (show okB (.mk k n t ks) = true → Enc.Good (V.mk k n t ks) from fun h => Enc.good_of h hn hK (by omega))
  have hbk : bulkL ks ≤ 1073741824 := by simp only [bulk] at hN; omega
  have HLB := Lib.hid (show okB (.mk k n t ks) = true → (Enc.lay (Enc.plan (.mk k n t ks))).length ≤ 104857600 from fun h => by have := Enc.lay_bulk _ (Enc.ok_may h); omega)
  have HN' : Hid (4096 < n' ∨ n' ≤ 4096) := Lib.hid (by omega)
  have HR' := Lib.hid hr'
  clear S0 hp hKL B1 hB hK hK1 ht HL hN hr'
  go_enter Tryd.func4, Tryd.ntmps4
  go_wp2_with fail
  refine HLH.out.mono ?_
  rintro e w1 ⟨rfl, hq1⟩
  have S1 := HS.out.call hq1
  obtain ⟨a0, a1, a2, a3, _⟩ := S1.box.all
  have H1 := Lib.hid S1
  clear HLH HS hq1 S1
  cases p with
  | true =>
    go_wp2_with (go_at_call 17; (with_reducible refine (Dec.works_any _ H1.out.tab).mono ?_); rintro e w3 ⟨rfl, hb3⟩)
    go_ret
    exact ⟨rfl, below_next H1.out.low hb3⟩
  | false =>
  rcases HN'.out with hbig | hbig
  · have hd : (n' : Int) > 4096 := by omega
    clear hbig
    go_wp2_with (go_at_call 17; (with_reducible refine (Dec.works_any _ H1.out.tab).mono ?_); rintro e w3 ⟨rfl, hb3⟩)
    go_ret
    exact ⟨rfl, below_next H1.out.low hb3⟩
  have hd : ¬ (n' : Int) > 4096 := by omega
  have HB' := Lib.hid hbig
  clear hbig
  cases hv : okB (.mk k n t ks) with
  | false =>
    have HV := Lib.hid hv
    clear hv
    go_wp2_with (first
      | (go_at_call 12; (with_reducible refine (Enc.encv_no k n t ks A l c w1 HV.out hnl hn H1.out.kd H1.out.tab).mono ?_); rintro e w2 ⟨rfl, hb2⟩)
      | (go_at_call 17; (with_reducible refine (Dec.works_any _ (H1.out.call hb2).tab).mono ?_); rintro e w5 ⟨rfl, hb5⟩))
    go_ret
    exact ⟨rfl, below_next (H1.out.call hb2).low hb5⟩
  | true =>
    have hg := HG.out hv
    obtain ⟨m, hm⟩ : ∃ m, (Enc.lay (Enc.plan (.mk k n t ks))).length = m := ⟨_, rfl⟩
    have hm0 : 0 < m := hm ▸ Dec.lay_pos hg.1
    have hmB : m ≤ 104857600 := hm ▸ HLB.out hv
    obtain ⟨j, hj⟩ : ∃ j, X % m = j := ⟨_, rfl⟩
    have hjm : j < m := by rw [← hj]; exact Nat.mod_lt _ hm0
    have hrem1 : (X : Int).tmod (m : Int) = (j : Int) := by rw [← hj]; exact Int.ofNat_tmod X m
    have hrem2 : (X : Int) % (m : Int) = (j : Int) := by rw [← hj]; exact (Int.natCast_emod X m).symm
    have hmz : ¬ (m : Int) = 0 := by omega
    have hmz' : ((m : Int) == 0) = false := by simp; omega
    have hjw : IntKind.i64.wrap (j : Int) = (j : Int) := by rw [IntKind.wrap_i64]; omega
    have hXw : IntKind.i64.wrap (X : Int) = (X : Int) := by rw [IntKind.wrap_i64]; omega
    have HV := Lib.hid hv
    have HGD := Lib.hid hg
    have HM := Lib.hid hm
    have HM0 := Lib.hid hm0
    have HMB := Lib.hid hmB
    have HJM := Lib.hid hjm
    clear hv hg hm hm0 hmB hjm hj
    go_wp2_with fail
    refine (Enc.encv_yes k n t ks A l c w1 HV.out hnl hk hn H1.out.kd H1.out.tab).mono ?_
    rintro e w2 ⟨A2, m2, c2, rfl, ho2, hb2⟩
    have hm2 : m2 = m := by rw [← HM.out]; exact ho2.len.symm
    subst hm2
    have H2 := Lib.hid (H1.out.call hb2)
    have HO2 := Lib.hid ho2
    have HRm2 := Lib.hid (show Rd .u8 256 w2 w2.heap.size A2 m2 (Enc.lay (Enc.plan (.mk k n t ks))) from ho2.rd)
    have HC2 := Lib.hid ho2.cap.1
    have HR2 := Lib.hid (HR'.out.call H2.out.low)
    clear ho2 hb2
    go_wp2_with (first
      | (at_builtin; refine wpList_app8 (base := w2.heap.size) rfl _ _ rfl rfl (Utf.Own.nil _ _ _ _ _) rfl HRm2.out (by have := HMB.out; omega) (Nat.le_refl _) ?_; intro A3 c3 w3 ho3 hg3; have hb3 : Below w2.heap.size w2 w3 := below_grown (Utf.Own.nil .u8 256 5 _ w2.heap.size) hg3 (Nat.le_refl _); simp only [Nat.zero_add, List.nil_append] at ho3; have HO3 := Lib.hid ho3; clear ho3)
      | (at_builtin; refine wpList_app8 (base := w2.heap.size) rfl _ _ rfl rfl HO3.out rfl (HR2.out.call hb3) (by have := HMB.out; have := HB'.out; omega) hb3.size ?_; intro A4 c4 w4 ho4 hg4; have hb4 : Below w2.heap.size w2 w4 := hb3.trans (below_grown HO3.out hg4 hb3.size)))
    have H4 := Lib.hid (H2.out.call hb4)
    have hdec := Dec.dec_lays HGD.out HV.out ho4.rd ho4.cap.1 (by have := HMB.out; have := HB'.out; omega) H4.out.tab
    rw [HM.out] at hdec
    refine hdec.mono ?_
    clear hdec
    rintro e w5 ⟨A5, l5, c5, rfl, hk5, hb5⟩
    simp only [V.kind, V.num, V.text, V.kids] at hk5 ⊢
    have hb6 := (below_next hb4 hb5).alloc (below_next hb4 hb5).size (.cells #[.int .u8 (k : Int), .int .u64 (n : Int), .string t, .slice A5 l5 c5] 25)
    have hx6 := Box.new w5 (.int .u8 (k : Int)) (.int .u64 (n : Int)) (.string t) (.slice A5 l5 c5)
    have hk6 := hk5.alloc (.cells #[.int .u8 (k : Int), .int .u64 (n : Int), .string t, .slice A5 l5 c5] 25)
    obtain ⟨g6, hg6⟩ : ∃ g, w5.heap.size = g := ⟨_, rfl⟩
    obtain ⟨w6, hw6⟩ : ∃ x, w5.alloc (.cells #[.int .u8 (k : Int), .int .u64 (n : Int), .string t, .slice A5 l5 c5] 25) = x := ⟨_, rfl⟩
    rw [hw6] at hb6 hx6 hk6
    rw [hg6] at hx6
    have H6 := Lib.hid (H2.out.call hb6)
    obtain ⟨p0, p1, p2, p3, _⟩ := hx6.all
    obtain ⟨q0, q1, q2, q3, _⟩ := H6.out.box.all
    have HK6 := Lib.hid hk6
    have HRm6 := Lib.hid (HRm2.out.call hb6)
    clear hb6 hx6 hk6 hk5 hb5 ho4 hb4
    go_wp2_with fail
    refine (Dec.same_w (v := .mk k n t ks) hbk H6.out.kd HK6.out).mono ?_
    rintro e w7 ⟨rfl, hb7⟩
    have H7 := Lib.hid (H6.out.call hb7)
    have HRm7 := Lib.hid ((HRm6.out.call hb7).take (k := j) (Nat.le_of_lt HJM.out))
    have hsl := cut_to A2 m2 c2 j (Nat.le_of_lt HJM.out) HC2.out
    clear hb7
    go_wp2_with fail
    refine (Dec.dec_cut HGD.out HV.out (by rw [HM.out]; exact HJM.out) HRm7.out (by have := HC2.out; have := HJM.out; omega) (by have := HMB.out; have := HJM.out; omega) H7.out.tab).mono ?_
    rintro e w8 ⟨A8, c8, rfl, hb8⟩
    have H9 := Lib.hid ((H7.out.call hb8).alloc (.cells #[.int .u8 0, .int .u64 0, .string ⟨#[]⟩, .slice A8 0 c8] 25))
    have hx9 := Box.new w8 (.int .u8 0) (.int .u64 0) (.string ⟨#[]⟩) (.slice A8 0 c8)
    obtain ⟨g9, hg9⟩ : ∃ g, w8.heap.size = g := ⟨_, rfl⟩
    obtain ⟨w9, hw9⟩ : ∃ x, w8.alloc (.cells #[.int .u8 0, .int .u64 0, .string ⟨#[]⟩, .slice A8 0 c8] 25) = x := ⟨_, rfl⟩
    rw [hw9] at hx9 H9
    rw [hg9] at hx9
    obtain ⟨r0, r1, r2, r3, _⟩ := hx9.all
    clear hx9 hb8
    go_wp2_with fail
    refine (Dec.same_z A8 c8 w9).mono ?_
    rintro e w10 ⟨rfl, hb10⟩
    have H10 := Lib.hid (H9.out.call hb10)
    clear hb10
    go_wp2_with fail
    refine (Dec.works_any _ H10.out.tab).mono ?_
    rintro e w11 ⟨rfl, hb11⟩
    go_wp2_with fail
    go_ret
    exact ⟨rfl, below_next H10.out.low hb11⟩
end Go.Proofs.YtikjnbognjicdaaDoor.decodeBack
