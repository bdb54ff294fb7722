/-
  The walk of the statement DecodeOwn: a value hangs on its own bytes alone. Condition, as the card has it: the table utf.shapes lies as the program's text lays it.
-/
import Derived.Test.YtikjnbognjicdaaDoorDwk
import Derived.Test.YtikjnbognjicdaaDoorDow
namespace Go.Proofs.YtikjnbognjicdaaDoor.Dec
set_option maxRecDepth 100000
open Go.RowKit Go.Proofs.YtikjnbognjicdaaDoor.Utf Go.Proofs.YtikjnbognjicdaaDoor.Val V

/-- What decode.Value answers, its value's memory too. -/
def GivesV (v : V) (mi xi : Int) (w : World) (e : Ending) (w' : World) : Prop :=
  ∃ A l c, e = .returned (.tuple #[.agg #[.int .u8 (v.kind : Int), .int .u64 (v.num : Int), .string v.text, .slice A l c], .int .i64 mi, .int .i64 xi]) ∧ Kd w' v.kids A l c ∧ Below w.heap.size w w'
theorem dec_full {w : World} {A : Option Addr} {n c : Nat} {b : List Nat} (h : Rd .u8 256 w w.heap.size A n b) (hc : n ≤ c) (hn : n ≤ 524288) (ht : Tab w) {v : V} {m x : Nat} (hd : decD b = (v, m, x)) {mi xi : Int} (hm : (m : Int) = mi) (hx : (x : Int) = xi) :
    Calls Tryd.prog 18 #[.slice A n c] w (GivesV v mi xi w) := by
  have hA := dec_any h hc hn ht
  rw [hd] at hA
  refine hA.mono fun e w' he => ?_
  obtain ⟨A, l, c, rfl, _, _, hk, hb⟩ := he
  subst hm hx
  exact ⟨A, l, c, rfl, hk.kd, hb⟩
theorem dec_small {b : List Nat} {v : V} {n : Nat} (h : decD b = (v, n, 0)) (hb : b.length ≤ 524288) : bulkL v.kids ≤ 1073741824 := by
  rcases dec_ways b with ⟨v', it, r, hv, hok, hd⟩ | ⟨_, hd⟩ | ⟨_, hd⟩
  · rw [hd] at h
    simp only [Prod.mk.injEq, and_true] at h
    obtain ⟨rfl, _⟩ := h
    obtain ⟨⟨h1, h2⟩, _⟩ := val_fit hv
    have h3 : items v' ≤ 1024 := by
      unfold okB at hok
      simp only [Bool.and_eq_true, decide_eq_true_eq] at hok
      exact hok.1.1
    have := dec_bulk h1 h2 (by omega) hb
    have := kids_bulk v'
    omega
  · rw [hd] at h; simp at h
  · rw [hd] at h; simp at h
theorem same_v {v : V} {A A' : Option Addr} {l c l' c' : Nat} {w : World} (hN : bulkL v.kids ≤ 1073741824) (h : Kd w v.kids A l c) (h' : Kd w v.kids A' l' c') :
    Calls Tryd.prog 19 #[.agg #[.int .u8 (v.kind : Int), .int .u64 (v.num : Int), .string v.text, .slice A l c], .agg #[.int .u8 (v.kind : Int), .int .u64 (v.num : Int), .string v.text, .slice A' l' c']] w (GivesB true w) := by
  have := vsame_any v.kind v.num v.text v.kids A l c v.kind v.num v.text v.kids A' l' c' w hN h h'
  rwa [same_self] at this
end Go.Proofs.YtikjnbognjicdaaDoor.Dec
namespace Go.Proofs.YtikjnbognjicdaaDoor.decodeOwn
set_option maxRecDepth 100000
open Go.RowKit Go.Proofs.YtikjnbognjicdaaDoor.Utf Go.Proofs.YtikjnbognjicdaaDoor.Val Go.Proofs.YtikjnbognjicdaaDoor.Dec V

section
variable (A : Option Addr) (n c : Nat) (b : List Nat) (A' : Option Addr) (n' c' : Nat) (b' : List Nat) (W : World) (hT : Tab W) (hr : Rd .u8 256 W W.heap.size A n b) (hc : n ≤ c) (hr' : Rd .u8 256 W W.heap.size A' n' b')
include hT hr hc hr'
omit hr hc hr' in
theorem big1 (hb : 4096 < n) : Calls Tryd.prog 6 #[.slice A n c, .slice A' n' c'] W (Val.GivesB true W) := by
  have hd : (n : Int) > 4096 := by omega
  clear hb
  go_enter Tryd.func6, Tryd.ntmps6
  go_wp2_with ((go_at_call 17; refine (Dec.works_any W hT).mono ?_; rintro e w1 ⟨rfl, hb1⟩))
  go_ret
  exact ⟨rfl, hb1⟩
omit hr hc hr' in
theorem big2 (h : ¬ 4096 < n) (hb : 4096 < n') : Calls Tryd.prog 6 #[.slice A n c, .slice A' n' c'] W (Val.GivesB true W) := by
  have hd : ¬ (n : Int) > 4096 := by omega
  have hd' : (n' : Int) > 4096 := by omega
  clear hb h
  go_enter Tryd.func6, Tryd.ntmps6
  go_wp2_with ((go_at_call 17; refine (Dec.works_any W hT).mono ?_; rintro e w1 ⟨rfl, hb1⟩))
  go_ret
  exact ⟨rfl, hb1⟩
set_option maxHeartbeats 4000000 in
/-- What is wrong, or not all there. -/
theorem other (h : ¬ 4096 < n) (h' : ¬ 4096 < n') {v v' : V} {m m' x x' : Nat} (hd : decD b = (v, m, x)) (hd' : decD (b ++ b') = (v', m', x')) (hx : x = 6 ∧ x' = 6 ∨ x = 7 ∧ (x' ≠ 0 ∨ (x' = 0 ∧ b.length < m'))) : Calls Tryd.prog 6 #[.slice A n c, .slice A' n' c'] W (Val.GivesB true W) := by
  have hd1 : ¬ (n : Int) > 4096 := by omega
  have hd2 : ¬ (n' : Int) > 4096 := by omega
  have HN := Lib.hid h
  have HN' := Lib.hid h'
  have HBN := Lib.hid hr.len
  clear h h'
  obtain ⟨mi, hmi⟩ : ∃ mi, (m : Int) = mi := ⟨_, rfl⟩
  obtain ⟨mi', hmi'⟩ : ∃ mi', (m' : Int) = mi' := ⟨_, rfl⟩
  rcases hx with ⟨rfl, rfl⟩ | ⟨rfl, hx⟩
  · go_enter Tryd.func6, Tryd.ntmps6
    go_wp2_with fail
    refine (dec_full hr hc (by have := HN.out; omega) hT hd hmi rfl).mono ?_
    rintro e w1 ⟨A1, l1, c1, rfl, hk1, hb1⟩
    have hB1 := hb1.alloc hb1.size (.cells #[.int .u8 (v.kind : Int), .int .u64 (v.num : Int), .string v.text, .slice A1 l1 c1] 25)
    obtain ⟨v1, hv1⟩ : ∃ v1, w1.alloc (.cells #[.int .u8 (v.kind : Int), .int .u64 (v.num : Int), .string v.text, .slice A1 l1 c1] 25) = v1 := ⟨_, rfl⟩
    rw [hv1] at hB1
    have hr1 := hr.call hB1
    have hr1' := hr'.call hB1
    have HR1 := Lib.hid hr1
    have HR1' := Lib.hid hr1'
    have HV1 := Lib.hid hB1
    clear hr1 hr1' hB1 hk1 hb1
    go_wp2_with (first
      | (at_builtin; refine wpList_app8 (base := v1.heap.size) rfl _ _ rfl rfl (Own.nil _ _ _ _ _) rfl HR1.out (by have := HN.out; omega) (Nat.le_refl _) ?_; intro A2 c2 w2 ho2 hg2; have hb2 : Below v1.heap.size v1 w2 := below_grown (Own.nil .u8 256 5 _ v1.heap.size) hg2 (Nat.le_refl _); simp only [Nat.zero_add, List.nil_append] at ho2; have HO2 := Lib.hid ho2; clear ho2)
      | (at_builtin; refine wpList_app8 (base := v1.heap.size) rfl _ _ rfl rfl HO2.out rfl (HR1'.out.call hb2) (by have := HN.out; have := HN'.out; omega) hb2.size ?_; intro A3 c3 w3 ho3 hg3; have hb3 : Below v1.heap.size v1 w3 := hb2.trans (below_grown HO2.out hg3 hb2.size)))
    have hB3 := below_next HV1.out hb3
    refine (dec_full ho3.rd ho3.cap.1 (by have := HN.out; have := HN'.out; omega) (hT.call hB3) hd' hmi' rfl).mono ?_
    rintro e w4 ⟨A4, l4, c4, rfl, hk4, hb4⟩
    have hB4 := below_next hB3 hb4
    clear hk4 ho3
    go_wp2_with ((go_at_call 17; refine (Dec.works_any _ (hT.call (hB4.alloc hB4.size _))).mono ?_; rintro e w5 ⟨rfl, hb5⟩; have hB5 := below_next (hB4.alloc hB4.size _) hb5))
    go_ret
    exact ⟨rfl, hB5⟩
  · have hxi : ∃ p : Bool, ((x' : Int) != 0) = p ∧ (p = true ∨ (p = false ∧ b.length < m')) := by
      rcases hx with h | ⟨h, h2⟩
      · exact ⟨true, by simp; omega, .inl rfl⟩
      · exact ⟨false, by subst h; rfl, .inr ⟨rfl, h2⟩⟩
    obtain ⟨p, hp, hx⟩ := hxi
    obtain ⟨xi, hxi⟩ : ∃ xi, (x' : Int) = xi := ⟨_, rfl⟩
    rw [hxi] at hp
    obtain ⟨k', hk'⟩ : ∃ k', m' = k' := ⟨_, rfl⟩
    have hgt : p = false → mi' > (n : Int) := fun e => by
      rcases hx with h | ⟨_, h⟩
      · rw [h] at e; cases e
      · have := HBN.out; omega
    have HGT := Lib.hid hgt
    have HMI := Lib.hid hmi'
    have HXI := Lib.hid hxi
    clear hx hgt hmi' hxi hk'
    go_enter Tryd.func6, Tryd.ntmps6
    go_wp2_with fail
    refine (dec_full hr hc (by have := HN.out; omega) hT hd hmi rfl).mono ?_
    rintro e w1 ⟨A1, l1, c1, rfl, hk1, hb1⟩
    have hB1 := hb1.alloc hb1.size (.cells #[.int .u8 (v.kind : Int), .int .u64 (v.num : Int), .string v.text, .slice A1 l1 c1] 25)
    obtain ⟨v1, hv1⟩ : ∃ v1, w1.alloc (.cells #[.int .u8 (v.kind : Int), .int .u64 (v.num : Int), .string v.text, .slice A1 l1 c1] 25) = v1 := ⟨_, rfl⟩
    rw [hv1] at hB1
    have hr1 := hr.call hB1
    have hr1' := hr'.call hB1
    have HR1 := Lib.hid hr1
    have HR1' := Lib.hid hr1'
    have HV1 := Lib.hid hB1
    clear hr1 hr1' hB1 hk1 hb1
    go_wp2_with (first
      | (at_builtin; refine wpList_app8 (base := v1.heap.size) rfl _ _ rfl rfl (Own.nil _ _ _ _ _) rfl HR1.out (by have := HN.out; omega) (Nat.le_refl _) ?_; intro A2 c2 w2 ho2 hg2; have hb2 : Below v1.heap.size v1 w2 := below_grown (Own.nil .u8 256 5 _ v1.heap.size) hg2 (Nat.le_refl _); simp only [Nat.zero_add, List.nil_append] at ho2; have HO2 := Lib.hid ho2; clear ho2)
      | (at_builtin; refine wpList_app8 (base := v1.heap.size) rfl _ _ rfl rfl HO2.out rfl (HR1'.out.call hb2) (by have := HN.out; have := HN'.out; omega) hb2.size ?_; intro A3 c3 w3 ho3 hg3; have hb3 : Below v1.heap.size v1 w3 := hb2.trans (below_grown HO2.out hg3 hb2.size)))
    have hB3 := below_next HV1.out hb3
    refine (dec_full ho3.rd ho3.cap.1 (by have := HN.out; have := HN'.out; omega) (hT.call hB3) hd' HMI.out HXI.out).mono ?_
    rintro e w4 ⟨A4, l4, c4, rfl, hk4, hb4⟩
    have hB4 := below_next hB3 hb4
    clear hk4 ho3
    cases p with
    | true =>
      go_wp2_with ((go_at_call 17; refine (Dec.works_any _ (hT.call (hB4.alloc hB4.size _))).mono ?_; rintro e w5 ⟨rfl, hb5⟩; have hB5 := below_next (hB4.alloc hB4.size _) hb5))
      go_ret
      exact ⟨rfl, hB5⟩
    | false =>
      have hg2 : mi' > (n : Int) := HGT.out rfl
      go_wp2_with ((go_at_call 17; refine (Dec.works_any _ (hT.call (hB4.alloc hB4.size _))).mono ?_; rintro e w5 ⟨rfl, hb5⟩; have hB5 := below_next (hB4.alloc hB4.size _) hb5))
      go_ret
      exact ⟨rfl, hB5⟩
set_option maxHeartbeats 4000000 in
/-- What is read. -/
theorem main (h : ¬ 4096 < n) (h' : ¬ 4096 < n') {v : V} {m : Nat} (hd : decD b = (v, m, 0)) : Calls Tryd.prog 6 #[.slice A n c, .slice A' n' c'] W (Val.GivesB true W) := by
  obtain ⟨hm1, hmb, hmore, hcut, hcut1⟩ := own_ok hd
  have hsm := dec_small hd (by rw [hr.len]; omega)
  have hd' := hmore b'
  have hd1 : ¬ (n : Int) > 4096 := by omega
  have hd2 : ¬ (n' : Int) > 4096 := by omega
  rw [hr.len] at hmb
  obtain ⟨mi, hmi⟩ : ∃ mi, (m : Int) = mi := ⟨_, rfl⟩
  obtain ⟨k, hk⟩ : ∃ k, m - 1 = k := ⟨_, rfl⟩
  have hwk : IntKind.i64.wrap (mi - 1) = (k : Int) := by rw [IntKind.wrap_i64]; omega
  have hg1 : ¬ mi < 1 := by omega
  have hg2 : ¬ mi > (n : Int) := by omega
  have hrm := hr.take (k := m) hmb
  have hrk := hr.take (k := k) (by omega)
  have hsl1 := cut_to A n c k (by omega) hc
  have hsl2 := cut_to A n c m hmb hc
  rw [hmi] at hsl2
  rw [hk] at hcut1
  have HN := Lib.hid h
  have HN' := Lib.hid h'
  have HSM := Lib.hid hsm
  have HMB : Hid (m ≤ n ∧ k ≤ n) := Lib.hid (by omega)
  have HC := Lib.hid hc
  have HRM := Lib.hid hrm
  have HRK := Lib.hid hrk
  have HMI := Lib.hid hmi
  clear h h' hsm hmb hk hrm hrk hmi hm1 hc
  go_enter Tryd.func6, Tryd.ntmps6
  go_wp2_with fail
  refine (dec_full hr HC.out (by have := HN.out; omega) hT hd HMI.out rfl).mono ?_
  rintro e w1 ⟨A1, l1, c1, rfl, hk1, hb1⟩
  have hB1 := hb1.alloc hb1.size (.cells #[.int .u8 (v.kind : Int), .int .u64 (v.num : Int), .string v.text, .slice A1 l1 c1] 25)
  have hx1 := Box.new w1 (.int .u8 (v.kind : Int)) (.int .u64 (v.num : Int)) (.string v.text) (.slice A1 l1 c1)
  have hk1 := hk1.alloc (.cells #[.int .u8 (v.kind : Int), .int .u64 (v.num : Int), .string v.text, .slice A1 l1 c1] 25)
  obtain ⟨g1, hg1'⟩ : ∃ g, w1.heap.size = g := ⟨_, rfl⟩
  obtain ⟨v1, hv1⟩ : ∃ v1, w1.alloc (.cells #[.int .u8 (v.kind : Int), .int .u64 (v.num : Int), .string v.text, .slice A1 l1 c1] 25) = v1 := ⟨_, rfl⟩
  rw [hv1] at hB1 hk1 hx1
  rw [hg1'] at hx1
  have HR1 := Lib.hid (hr.call hB1)
  have HR1' := Lib.hid (hr'.call hB1)
  have HV1 := Lib.hid hB1
  have HK1 := Lib.hid hk1
  have HX1 := Lib.hid hx1
  clear hB1 hk1 hb1 hx1
  go_wp2_with (first
    | (at_builtin; refine wpList_app8 (base := v1.heap.size) rfl _ _ rfl rfl (Own.nil _ _ _ _ _) rfl HR1.out (by have := HN.out; omega) (Nat.le_refl _) ?_; intro A2 c2 w2 ho2 hg2; have hb2 : Below v1.heap.size v1 w2 := below_grown (Own.nil .u8 256 5 _ v1.heap.size) hg2 (Nat.le_refl _); simp only [Nat.zero_add, List.nil_append] at ho2; have HO2 := Lib.hid ho2; clear ho2)
    | (at_builtin; refine wpList_app8 (base := v1.heap.size) rfl _ _ rfl rfl HO2.out rfl (HR1'.out.call hb2) (by have := HN.out; have := HN'.out; omega) hb2.size ?_; intro A3 c3 w3 ho3 hg3; have hb3 : Below v1.heap.size v1 w3 := hb2.trans (below_grown HO2.out hg3 hb2.size)))
  have hB3 := below_next HV1.out hb3
  refine (dec_full ho3.rd ho3.cap.1 (by have := HN.out; have := HN'.out; omega) (hT.call hB3) hd' HMI.out rfl).mono ?_
  rintro e w4 ⟨A4, l4, c4, rfl, hk4, hb4⟩
  have hx4 := Box.new w4 (.int .u8 (v.kind : Int)) (.int .u64 (v.num : Int)) (.string v.text) (.slice A4 l4 c4)
  have hk4 := hk4.alloc (.cells #[.int .u8 (v.kind : Int), .int .u64 (v.num : Int), .string v.text, .slice A4 l4 c4] 25)
  have hb4' : Below v1.heap.size v1 (w4.alloc (.cells #[.int .u8 (v.kind : Int), .int .u64 (v.num : Int), .string v.text, .slice A4 l4 c4] 25)) := (below_next hb3 hb4).alloc (below_next hb3 hb4).size _
  obtain ⟨g4, hg4⟩ : ∃ g, w4.heap.size = g := ⟨_, rfl⟩
  obtain ⟨v4, hv4⟩ : ∃ v4, w4.alloc (.cells #[.int .u8 (v.kind : Int), .int .u64 (v.num : Int), .string v.text, .slice A4 l4 c4] 25) = v4 := ⟨_, rfl⟩
  rw [hv4] at hk4 hx4 hb4'
  rw [hg4] at hx4
  have hB4 := below_next HV1.out hb4'
  have HR4 : Hid (Rd .u8 256 v4 v4.heap.size A k (b.take k)) := Lib.hid (HRK.out.call hB4)
  have HRm4 : Hid (Rd .u8 256 v4 v4.heap.size A m (b.take m)) := Lib.hid (HRM.out.call hB4)
  have HT4 := Lib.hid (hT.call hB4)
  have HB4 := Lib.hid hB4
  have HX14 := Lib.hid (HX1.out.call hb4')
  have HK14 := Lib.hid (HK1.out.call hb4')
  have HX4 := Lib.hid hx4
  have HK4 := Lib.hid hk4
  clear hk4 hx4 ho3 hb4' hB4 hb4 hB3
  go_wp2_with fail
  refine (dec_full HR4.out (by have := HMB.out; have := HC.out; omega) (by have := HMB.out; have := HN.out; omega) HT4.out hcut1 rfl rfl).mono ?_
  rintro e w5 ⟨A5, l5, c5, rfl, _, hb5⟩
  have hb5' := hb5.alloc hb5.size (.cells #[.int .u8 (zeroV.kind : Int), .int .u64 (zeroV.num : Int), .string zeroV.text, .slice A5 l5 c5] 25)
  obtain ⟨v5, hv5⟩ : ∃ v5, w5.alloc (.cells #[.int .u8 (zeroV.kind : Int), .int .u64 (zeroV.num : Int), .string zeroV.text, .slice A5 l5 c5] 25) = v5 := ⟨_, rfl⟩
  rw [hv5] at hb5'
  have HB5 := Lib.hid (below_next HB4.out hb5')
  have HT5 := Lib.hid (hT.call HB5.out)
  have HX15 := Lib.hid (HX14.out.call hb5')
  have HK15 := Lib.hid (HK14.out.call hb5')
  have HX45 := Lib.hid (HX4.out.call hb5')
  have HK45 := Lib.hid (HK4.out.call hb5')
  have HRm5 := Lib.hid (HRm4.out.call hb5')
  clear hb5 hb5'
  go_wp2_with fail
  refine (dec_full HRm5.out (by have := HMB.out; have := HC.out; omega) (by have := HMB.out; have := HN.out; omega) HT5.out hcut HMI.out rfl).mono ?_
  rintro e w6 ⟨A6, l6, c6, rfl, hk6, hb6⟩
  have hb6' := hb6.alloc hb6.size (.cells #[.int .u8 (v.kind : Int), .int .u64 (v.num : Int), .string v.text, .slice A6 l6 c6] 25)
  have hx6 := Box.new w6 (.int .u8 (v.kind : Int)) (.int .u64 (v.num : Int)) (.string v.text) (.slice A6 l6 c6)
  have hk6 := hk6.alloc (.cells #[.int .u8 (v.kind : Int), .int .u64 (v.num : Int), .string v.text, .slice A6 l6 c6] 25)
  obtain ⟨g6, hg6⟩ : ∃ g, w6.heap.size = g := ⟨_, rfl⟩
  obtain ⟨v6, hv6⟩ : ∃ v6, w6.alloc (.cells #[.int .u8 (v.kind : Int), .int .u64 (v.num : Int), .string v.text, .slice A6 l6 c6] 25) = v6 := ⟨_, rfl⟩
  rw [hv6] at hb6' hk6 hx6
  rw [hg6] at hx6
  have HB6 := Lib.hid (below_next HB5.out hb6')
  have HX16 := Lib.hid (HX15.out.call hb6')
  have HK16 := Lib.hid (HK15.out.call hb6')
  have HX46 := Lib.hid (HX45.out.call hb6')
  have HK46 := Lib.hid (HK45.out.call hb6')
  have HX6 := Lib.hid hx6
  have HK6 := Lib.hid hk6
  obtain ⟨p0, p1, p2, p3, pf⟩ := HX16.out.all
  obtain ⟨q0, q1, q2, q3, qf⟩ := HX46.out.all
  have HMR := HMI
  clear hb6 hb6' hk6 hx6
  go_wp2_with fail
  refine (same_v HSM.out HK16.out HK46.out).mono ?_
  rintro e w7 ⟨rfl, hb7⟩
  obtain ⟨r0, r1, r2, r3, rf⟩ := (HX16.out.call hb7).all
  obtain ⟨s0, s1, s2, s3, sf⟩ := (HX6.out.call hb7).all
  go_wp2_with fail
  refine (same_v HSM.out (HK16.out.call hb7) (HK6.out.call hb7)).mono ?_
  rintro e w8 ⟨rfl, hb8⟩
  have hB8 := below_next (below_next HB6.out hb7) hb8
  go_wp2_with fail
  refine (Dec.works_any _ (hT.call hB8)).mono ?_
  rintro e w9 ⟨rfl, hb9⟩
  have hB9 := below_next hB8 hb9
  go_wp2_with fail
  go_ret
  exact ⟨rfl, hB9⟩
theorem walk0 : Calls Tryd.prog 6 #[.slice A n c, .slice A' n' c'] W (Val.GivesB true W) := by
  by_cases h : 4096 < n
  · exact big1 A n c A' n' c' W hT h
  by_cases h' : 4096 < n'
  · exact big2 A n c A' n' c' W hT h h'
  obtain ⟨⟨v, m, x⟩, hd⟩ : ∃ r, decD b = r := ⟨_, rfl⟩
  obtain ⟨⟨v', m', x'⟩, hd'⟩ : ∃ r, decD (b ++ b') = r := ⟨_, rfl⟩
  have hx := dec_errs b
  rw [hd] at hx
  rcases hx with hx | hx | hx
  · obtain rfl : x = 0 := hx
    exact main A n c b A' n' c' b' W hT hr hc hr' h h' hd
  · obtain rfl : x = 6 := hx
    have h2 := own_form hd b'
    rw [hd'] at h2
    simp only [Prod.mk.injEq] at h2
    exact other A n c b A' n' c' b' W hT hr hc hr' h h' hd hd' (.inl ⟨rfl, h2.2.2⟩)
  · obtain rfl : x = 7 := hx
    refine other A n c b A' n' c' b' W hT hr hc hr' h h' hd hd' (.inr ⟨rfl, ?_⟩)
    by_cases h0 : x' = 0
    · subst h0
      exact .inr ⟨rfl, own_short hd hd'⟩
    · exact .inl h0
end
theorem walk (A : Option Addr) (n c : Nat) (b : List Nat) (A' : Option Addr) (n' c' : Nat) (b' : List Nat) (W : World) (hT : Tab W) (hr : Rd .u8 256 W W.heap.size A n b) (hc : n ≤ c) (_ : c ≤ maxLen) (hr' : Rd .u8 256 W W.heap.size A' n' b') (_ : n' ≤ c') (_ : c' ≤ maxLen) : Calls Tryd.prog 6 #[.slice A n c, .slice A' n' c'] W (Val.GivesB true W) :=
  walk0 A n c b A' n' c' b' W hT hr hc hr'
end Go.Proofs.YtikjnbognjicdaaDoor.decodeOwn
