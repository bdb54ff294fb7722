/-
  Contracts of the program's byCode and Put. Memory that was there stays. Conditions: values of bulk at most 2^29.
-/
import Derived.Test.YtohmnbefokhjpaaDoorFmu
import Derived.Deep.DeepCutAuto
namespace Go.Proofs.YtohmnbefokhjpaaDoor.Fl
set_option maxRecDepth 100000
open Go.RowKit Go.Proofs.YtohmnbefokhjpaaDoor.Utf Go.Proofs.YtohmnbefokhjpaaDoor.Val V

/-- Is there a null at a place? -/
def nulAt (ls : List V) (n : Nat) : Bool := match ls[n]? with | some v => decide (v.kind = 1) | none => false
/-- How many fields are left without the nulls at the end. -/
def cutN (ls : List V) : Nat → Nat
  | 0 => 0
  | n + 1 => if nulAt ls n = true then cutN ls n else n + 1
theorem cutN_le (ls : List V) : ∀ n, cutN ls n ≤ n
  | 0 => Nat.le_refl _
  | n + 1 => by
    unfold cutN
    by_cases h : nulAt ls n = true
    · rw [if_pos h]; have := cutN_le ls n; omega
    · rw [if_neg h]; omega
def trim (ls : List V) : List V := ls.take (cutN ls ls.length)
theorem cutN_null {ls : List V} {i k n : Nat} {t : ByteArray} {ks : List V} (hx : ls[i]? = some (.mk k n t ks)) (hk : k = 1) : cutN ls (i + 1) = cutN ls i := by
  show (if nulAt ls i = true then _ else _) = _
  rw [if_pos (by unfold nulAt; rw [hx]; exact decide_eq_true hk)]
theorem cutN_some {ls : List V} {i k n : Nat} {t : ByteArray} {ks : List V} (hx : ls[i]? = some (.mk k n t ks)) (hk : ¬ k = 1) : cutN ls (i + 1) = i + 1 := by
  show (if nulAt ls i = true then _ else _) = _
  rw [if_neg (by unfold nulAt; rw [hx]; exact fun h => hk (of_decide_eq_true h))]
theorem rowL_take {own : Bool} {w : World} {P : Nat → Prop} : ∀ {ks : List V} {b o j : Nat}, RowL own w P ks b o → RowL own w P (ks.take j) b o
  | [], _, _, _, _ => by simp [RowL]
  | _ :: _, _, _, 0, _ => trivial
  | x :: ks, b, o, j + 1, h => ⟨h.1, rowL_take h.2⟩
theorem kids_take {own : Bool} {w : World} {P : Nat → Prop} {ks : List V} {A : Option Addr} {l c j : Nat} (h : Go.Proofs.YtohmnbefokhjpaaDoor.Val.Kids own w P ks A l c) (hj : j ≤ l) : Go.Proofs.YtohmnbefokhjpaaDoor.Val.Kids own w P (ks.take j) A j c := by
  refine ⟨by rw [List.length_take, ← h.len]; omega, Nat.le_trans hj h.cap, fun h0 => ?_⟩
  obtain ⟨b, o, e, hP, ho, hr⟩ := h.2.2 (by omega)
  exact ⟨b, o, e, hP, ho, rowL_take hr⟩
theorem bulk_take : ∀ (ks : List V) (j : Nat), bulkL (ks.take j) ≤ bulkL ks
  | [], _ => by simp
  | _ :: _, 0 => by simp [bulkL]
  | x :: ks, j + 1 => by
    have := bulk_take ks j
    simp only [List.take_succ_cons, bulkL]
    omega

theorem bycode_any (code : Nat) (w : World) : Calls Tryd.prog 31 #[.int .u64 (code : Int)] w fun e w' => e = .returned (.agg #[.int .u8 6, .int .u64 (code : Int), .string ⟨#[]⟩, .slice none 0 0]) ∧ Below w.heap.size w w' := by
  have hb0 : Below w.heap.size w (w.alloc (.cells #[.int .u8 0, .int .u64 0, .string ⟨#[]⟩, .slice none 0 0] 27)) := (Below.refl _ _).alloc (Nat.le_refl _) _
  have hx := Box.new w (.int .u8 0) (.int .u64 0) (.string ⟨#[]⟩) (.slice none 0 0)
  have hnum : ∀ w, Calls Tryd.prog 10 #[.int .u8 6, .int .u64 (code : Int)] w fun e w' => e = .returned (.agg #[.int .u8 6, .int .u64 (code : Int), .string ⟨#[]⟩, .slice none 0 0]) ∧ Below w.heap.size w w' := fun w => Go.Proofs.YtohmnbefokhjpaaDoor.Val.number_any 6 code w
  go_enter Tryd.func31, Tryd.ntmps31
  go_wp2_with fail
  refine (hnum _).mono ?_
  rintro e w1 ⟨rfl, hb1⟩
  obtain ⟨d0, d1, d2, d3, df⟩ := (hx.call hb1).all
  have HB := Lib.hid (below_next hb0 hb1)
  clear hx hb0 hb1 hnum
  go_wp2
  refine bodyPost_ret (v := .agg #[.int .u8 6, .int .u64 (code : Int), .string ⟨#[]⟩, .slice none 0 0]) (by simp [results, Tryd.results31, go_sem, d0, d1, d2, d3]) rfl ?_
  exact ⟨rfl, below_set4 HB.out (by omega) _ _ _ _⟩

/-- A list of fields that is called so, in new memory. -/
def putL (code : Nat) (ks : List V) : List V := [.mk 6 code ⟨#[]⟩ [], .mk 22 0 ⟨#[]⟩ ks]
def GivesU (code : Nat) (ks : List V) (w : World) (e : Ending) (w' : World) : Prop := ∃ A1 l1 c1, e = .returned (.agg #[.int .u8 25, .int .u64 0, .string ⟨#[]⟩, .slice A1 l1 c1]) ∧ Nw w.heap.size w' (putL code ks) A1 l1 c1 ∧ Below w.heap.size w w'
theorem desc_put (code : Nat) (ks : List V) (A : Option Addr) (l c : Nat) (w : World) (hN : bulkL ks ≤ 536870912) (hcode : code < 18446744073709551616) (hK : Kd w ks A l c) :
    Calls Tryd.prog 30 #[.agg #[.int .u8 6, .int .u64 (code : Int), .string ⟨#[]⟩, .slice none 0 0], .agg #[.int .u8 22, .int .u64 0, .string ⟨#[]⟩, .slice A l c]] w (GivesU code ks w) :=
  vdesc_any 6 code ⟨#[]⟩ [] none 0 0 22 0 ⟨#[]⟩ ks A l c w (by simp only [bulkL, bulk, ByteArray.size]; simp; omega) (by omega) hcode (by omega) (by omega) (Kd.none_ _ _ _) hK

set_option maxHeartbeats 1000000 in
theorem put_any (code : Nat) (ls : List V) (A : Option Addr) (l c : Nat) (w : World) (hN : bulkL ls ≤ 536870912) (hcode : code < 18446744073709551616) (hK : Kd w ls A l c) :
    Calls Tryd.prog 13 #[.int .u64 (code : Int), .slice A l c] w (GivesU code (trim ls) w) := by
  have hx := Box.new w (.int .u8 0) (.int .u64 0) (.string ⟨#[]⟩) (.slice none 0 0)
  have hb0 : Below w.heap.size w (w.alloc (.cells #[.int .u8 0, .int .u64 0, .string ⟨#[]⟩, .slice none 0 0] 27)) := (Below.refl _ _).alloc (Nat.le_refl _) _
  have HT := Lib.hid (show trim ls = ls.take (cutN ls l) by unfold trim; rw [hK.len])
  have HCUT := Lib.hid (fun (n j : Nat) (h1 : j ≤ n) (h2 : n ≤ l) => (cut_top (T := 25) (e := 27) (size := 4) Tryd.underlying25 rfl rfl A n c j h1 (Nat.le_trans h2 hK.cap)))
  have hlb := length_bulk ls
  have hlen := hK.len
  have HL := Lib.hid (show l ≤ 536870912 by omega)
  have HN := Lib.hid hN
  have HC := Lib.hid hcode
  have HK := Lib.hid (hK.call hb0)
  have HX := Lib.hid hx
  have HB := Lib.hid hb0
  have hcap := Lib.hid hK.cap
  clear hN hcode hK hx hb0 hlb hlen
  go_enter Tryd.func13, Tryd.ntmps13
  go_wp2
  obtain ⟨W, hW⟩ : ∃ W, w.alloc (.cells #[.int .u8 0, .int .u64 0, .string ⟨#[]⟩, .slice none 0 0] 27) = W := ⟨_, rfl⟩
  have HWK : Hid (Kd W ls A l c) := Lib.hid (hW ▸ HK.out)
  have HWB : Hid (Below w.heap.size w W) := Lib.hid (hW ▸ HB.out)
  have HWX : Hid (Box W w.heap.size (.int .u8 0) (.int .u64 0) (.string ⟨#[]⟩) (.slice none 0 0)) := Lib.hid (hW ▸ HX.out)
  clear HK HB HX
  rw [hW]
  clear hW
  go_loopw [1] (fun s wr => ∃ j : Nat, j ≤ l ∧ s = .slice A j c ∧ cutN ls j = cutN ls l ∧ Below W.heap.size W wr) (fun s _ => match s with | .slice _ n _ => n | _ => 0)
  case atStart => exact ⟨l, Nat.le_refl _, rfl, rfl, Below.refl _ _⟩
  case round =>
    obtain ⟨j, hj, rfl, hq, hb⟩ := hrel
    have HQ := Lib.hid hq
    have HBW := Lib.hid hb
    have hL := HL.out
    cases j with
    | zero =>
      clear hq hb
      have HKJ := Lib.hid (kids_take (HWK.out.call HBW.out) hj)
      have HE : Hid (ls.take 0 = trim ls) := Lib.hid (by rw [HT.out, ← HQ.out]; rfl)
      go_wp2_with (first
          | (go_at_call 31; refine (bycode_any code _).mono ?_; rintro e w2 ⟨rfl, hb2⟩; have HB2 := Lib.hid hb2)
          | (go_at_call 30; refine (desc_put code _ _ _ _ _ (by have := HN.out; have := bulk_take ls 0; omega) HC.out (Kd.call HKJ.out HB2.out)).mono ?_; rintro e w3 ⟨A1, l1, c1, rfl, hN3, hb3⟩; have HN3 := Lib.hid hN3; have HB3 := Lib.hid (HWB.out.trans ((below_next HBW.out (below_next HB2.out hb3)).mono HWB.out.size)); obtain ⟨d0, d1, d2, d3, df⟩ := (HWX.out.call (below_next HBW.out (below_next HB2.out hb3))).all))
      refine bodyPost_ret (v := .agg #[.int .u8 25, .int .u64 0, .string ⟨#[]⟩, .slice A1 l1 c1]) (by simp [results, Tryd.results13, go_sem, d0, d1, d2, d3]) rfl ?_
      exact ⟨A1, l1, c1, rfl, by rw [← HE.out]; exact (HN3.out.far4 (by have := HWX.out.lt; have := HBW.out.size; have := HB2.out.size; omega) _ _ _ _).less (by have := HWB.out.size; have := HBW.out.size; have := HB2.out.size; omega), below_set4 HB3.out (by omega) _ _ _ _⟩
    | succ i =>
      obtain ⟨bb, oo, k', n', t', ks', A', l', c', hAA, hb', hx, h0, h1, h2, h3, hk', hn', hK'⟩ := (HWK.out.call hb).at_ (i := i) (by omega)
      subst hAA
      have HX := Lib.hid hx
      have hHN := isnull_any k' n' t' A' l' c' wr
      by_cases hk1 : k' = 1
      · rw [decide_eq_true hk1] at hHN
        have HHN := Lib.hid hHN
        have HE : Hid (cutN ls i = cutN ls l) := Lib.hid (by rw [← HQ.out, cutN_null HX.out hk1])
        have hct := (HCUT.out (i + 1) i (by omega) hj).1
        have hct2 := (HCUT.out (i + 1) i (by omega) hj).2
        clear hq hb hx hHN hk1 hK'
        go_wp2_with (go_at_call 29; refine HHN.out.mono ?_; rintro e w1 ⟨rfl, hb1⟩)
        go_roundw
        case rel => exact ⟨i, by omega, rfl, HE.out, HBW.out.trans (hb1.mono HBW.out.size)⟩
        case measure => simp
      · rw [decide_eq_false hk1] at hHN
        have HHN := Lib.hid hHN
        have HE : Hid (ls.take (i + 1) = trim ls) := Lib.hid (by rw [HT.out, ← HQ.out, cutN_some HX.out hk1])
        have HKJ := Lib.hid (kids_take (HWK.out.call HBW.out) hj)
        clear hq hb hx hHN hk1 hK'
        go_wp2_with (first
          | (go_at_call 29; refine HHN.out.mono ?_; rintro e w1 ⟨rfl, hb1⟩; have HB1 := Lib.hid hb1)
          | (go_at_call 31; refine (bycode_any code _).mono ?_; rintro e w2 ⟨rfl, hb2⟩; have HB2 := Lib.hid (below_next HB1.out hb2))
          | (go_at_call 30; refine (desc_put code _ _ _ _ _ (by have := HN.out; have := bulk_take ls (i + 1); omega) HC.out (Kd.call HKJ.out HB2.out)).mono ?_; rintro e w3 ⟨A1, l1, c1, rfl, hN3, hb3⟩; have HN3 := Lib.hid hN3; have HB3 := Lib.hid (HWB.out.trans ((below_next HBW.out (below_next HB2.out hb3)).mono HWB.out.size)); obtain ⟨d0, d1, d2, d3, df⟩ := (HWX.out.call (below_next HBW.out (below_next HB2.out hb3))).all))
        refine bodyPost_ret (v := .agg #[.int .u8 25, .int .u64 0, .string ⟨#[]⟩, .slice A1 l1 c1]) (by simp [results, Tryd.results13, go_sem, d0, d1, d2, d3]) rfl ?_
        exact ⟨A1, l1, c1, rfl, by rw [← HE.out]; exact (HN3.out.far4 (by have := HWX.out.lt; have := HBW.out.size; have := HB2.out.size; omega) _ _ _ _).less (by have := HWB.out.size; have := HBW.out.size; have := HB2.out.size; omega), below_set4 HB3.out (by omega) _ _ _ _⟩
end Go.Proofs.YtohmnbefokhjpaaDoor.Fl
