/-
  Contracts of the program's outcome functions beneath Put and Get: isCond, mayBe, PutCond, trueOrNull, and those that tell an outcome's fields. Memory that was there stays. Conditions: conditions of at most 2^28 bytes.
-/
import Derived.Test.YtohmnbefokhjpaaDoorOcb
import Derived.Test.YtohmnbefokhjpaaDoorFwo
import Derived.Deep.RegionWith
namespace Go.Proofs.YtohmnbefokhjpaaDoor.Oc
set_option maxRecDepth 100000
open Go.RowKit Go.Proofs.YtohmnbefokhjpaaDoor.Utf Go.Proofs.YtohmnbefokhjpaaDoor.Val Go.Proofs.YtohmnbefokhjpaaDoor.Fl V

/-- A box of an outcome. -/
def BxO (w : World) (g : Nat) (x0 x1 x2 x3 : Value) : Prop := w.heap[g]? = some (.cells #[x0, x1, x2, x3] 24 (0, 0))
section
variable {w w' : World} {g : Nat} {x0 x1 x2 x3 : Value}
theorem BxO.lt (h : BxO w g x0 x1 x2 x3) : g < w.heap.size := (Array.getElem?_eq_some_iff.1 h).1
theorem BxO.new (w : World) (x0 x1 x2 x3 : Value) : BxO (w.alloc (.cells #[x0, x1, x2, x3] 24)) w.heap.size x0 x1 x2 x3 := heap_alloc_new w _
theorem BxO.call (h : BxO w g x0 x1 x2 x3) (hb : Below w.heap.size w w') : BxO w' g x0 x1 x2 x3 := (hb.block g h.lt).trans h
theorem BxO.off {X : Nat → Prop} (h : BxO w g x0 x1 x2 x3) (ho : Off X w w') (hX : ¬ X g) : BxO w' g x0 x1 x2 x3 := (ho.block g h.lt hX).trans h
theorem BxO.all (h : BxO w g x0 x1 x2 x3) : w.cell? ⟨g, 0, none⟩ = some x0 ∧ w.cell? ⟨g, 1, none⟩ = some x1 ∧ w.cell? ⟨g, 2, none⟩ = some x2 ∧ w.cell? ⟨g, 3, none⟩ = some x3 ∧ ∀ j, w.frozen? ⟨g, j, none⟩ = false := by
  refine ⟨cell_of_row w g 0 _ _ _ h, cell_of_row w g 1 _ _ _ h, cell_of_row w g 2 _ _ _ h, cell_of_row w g 3 _ _ _ h, fun j => ?_⟩
  unfold BxO at h
  simp [World.frozen?, h]
end

theorem iscond_any (c : ByteArray) (w : World) (hs : c.size ≤ 1073741824) : Calls Tryd.prog 19 #[.string c] w (GivesB (cOk c) w) := by
  obtain ⟨w1, cc, hrun, hc, hr, hb⟩ := conv_str w c
  go_enter Tryd.func19, Tryd.ntmps19
  go_wp2_with fail
  refine (ascii_any _ _ _ _ _ w1 hr (by omega)).mono ?_
  rintro e w2 ⟨rfl, rfl⟩
  go_wp2
  go_ret
  exact ⟨rfl, hb⟩

/-- A value and an error's number, the value's kids in new memory. -/
def GivesVE (v : V) (er : Int) (w : World) (e : Ending) (w' : World) : Prop := ∃ k n t ks A l c, v = .mk k n t ks ∧ k < 256 ∧ n < 18446744073709551616 ∧ e = .returned (.tuple #[.agg #[.int .u8 (k : Int), .int .u64 (n : Int), .string t, .slice A l c], .int .i64 er]) ∧ Nw w.heap.size w' ks A l c ∧ Below w.heap.size w w'
/-- What PutCond answers. -/
def zeroV : V := .mk 0 0 ⟨#[]⟩ []
def condV (c : ByteArray) : V × Int := if cOk c = true then (errV c, 0) else (zeroV, 1)
theorem put29 (ls : List V) (A : Option Addr) (l c : Nat) (w : World) (hN : bulkL ls ≤ 536870912) (hK : Kd w ls A l c) : Calls Tryd.prog 13 #[.int .u64 29, .slice A l c] w (GivesU 29 (trim ls) w) := put_any 29 ls A l c w hN (by omega) hK
theorem sym_new (t : ByteArray) (w : World) : Calls Tryd.prog 7 #[.int .u8 21, .string t] w (fun e w' => e = .returned (.agg #[.int .u8 21, .int .u64 0, .string t, .slice none 0 0]) ∧ Below w.heap.size w w') := text_any' 21 t w
theorem kid21 (t : ByteArray) (w : World) (g : Nat) (hg : w.heap.size = g) : Kd (w.alloc (.cells #[.int .u8 21, .int .u64 0, .string t, .slice none 0 0] 27)) [.mk 21 0 t []] (some ⟨g, 0, none⟩) 1 1 := by
  subst hg
  exact kid1 (k := 21) (n := 0) (by omega) (by omega) (Kd.none_ _ _ _)
theorem trim_sym (t : ByteArray) : trim [.mk 21 0 t []] = [.mk 21 0 t []] := trim_one (by simp [kind])
theorem putcond_any (c : ByteArray) (w : World) (hs : c.size ≤ 268435456) : Calls Tryd.prog 36 #[.string c] w (GivesVE (condV c).1 (condV c).2 w) := by
  have hx := Box.new w (.int .u8 0) (.int .u64 0) (.string ⟨#[]⟩) (.slice none 0 0)
  have hb0 : Below w.heap.size w (w.alloc (.cells #[.int .u8 0, .int .u64 0, .string ⟨#[]⟩, .slice none 0 0] 27)) := (Below.refl _ _).alloc (Nat.le_refl _) _
  have HI := Lib.hid (fun w => iscond_any c w (by omega))
  have HX := Lib.hid hx
  have HB := Lib.hid hb0
  have HS := Lib.hid hs
  clear hx hb0 hs
  cases hc : cOk c with
  | false =>
    rw [hc] at HI
    have HE : Hid (condV c = (zeroV, 1)) := Lib.hid (by unfold condV; rw [hc]; rfl)
    clear hc
    go_enter Tryd.func36, Tryd.ntmps36
    go_wp2_with fail
    refine (HI.out _).mono ?_
    rintro e w1 ⟨rfl, hb1⟩
    obtain ⟨d0, d1, d2, d3, df⟩ := (HX.out.call hb1).all
    have HB1 := Lib.hid (below_next HB.out hb1)
    clear hb1
    go_wp2
    refine bodyPost_ret (v := .tuple #[.agg #[.int .u8 0, .int .u64 0, .string ⟨#[]⟩, .slice none 0 0], .int .i64 1]) (by simp [results, Tryd.results36, go_sem, d0, d1, d2, d3]) rfl ?_
    rw [HE.out]
    exact ⟨0, 0, ⟨#[]⟩, [], none, 0, 0, rfl, by omega, by omega, rfl, Go.Proofs.YtohmnbefokhjpaaDoor.Val.Kids.none_ _ _ _ _ _, below_set4 HB1.out (by omega) _ _ _ _⟩
  | true =>
    rw [hc] at HI
    have HE : Hid (condV c = (errV c, 0)) := Lib.hid (by unfold condV; rw [hc]; rfl)
    clear hc
    by_cases h0 : c.size = 0
    · have HE2 : Hid (errV c = nullV) := Lib.hid (err_null h0)
      obtain rfl := empty_of h0
      clear h0
      go_enter Tryd.func36, Tryd.ntmps36
      go_wp2_with fail
      refine (HI.out _).mono ?_
      rintro e w1 ⟨rfl, hb1⟩
      have HX1 := Lib.hid (HX.out.call hb1)
      have HB1 := Lib.hid (below_next HB.out hb1)
      clear hb1
      go_wp2_with fail
      refine (nul_new _).mono ?_
      rintro e w2 ⟨rfl, hb2⟩
      obtain ⟨d0, d1, d2, d3, df⟩ := (HX1.out.call hb2).all
      have HB2 := Lib.hid (below_next HB1.out hb2)
      clear hb2
      go_wp2
      refine bodyPost_ret (v := .tuple #[.agg #[.int .u8 1, .int .u64 0, .string ⟨#[]⟩, .slice none 0 0], .int .i64 0]) (by simp [results, Tryd.results36, go_sem, d0, d1, d2, d3]) rfl ?_
      rw [HE.out, HE2.out]
      exact ⟨1, 0, ⟨#[]⟩, [], none, 0, 0, rfl, by omega, by omega, rfl, Go.Proofs.YtohmnbefokhjpaaDoor.Val.Kids.none_ _ _ _ _ _, below_set4 HB2.out (by omega) _ _ _ _⟩
    · have HE2 := Lib.hid (err_kind h0)
      have hd : c.toList.isEmpty = false := empty_no' h0
      clear h0
      go_enter Tryd.func36, Tryd.ntmps36
      go_wp2_with fail
      refine (HI.out _).mono ?_
      rintro e w1 ⟨rfl, hb1⟩
      have HX1 := Lib.hid (HX.out.call hb1)
      have HB1 := Lib.hid (below_next HB.out hb1)
      clear hb1
      go_wp2_with fail
      refine (sym_new c _).mono ?_
      rintro e w2 ⟨rfl, hb2⟩
      have HX2 := Lib.hid ((HX1.out.call hb2).alloc (.cells #[.int .u8 21, .int .u64 0, .string c, .slice none 0 0] 27))
      have HB2 := Lib.hid (below_next (below_next HB1.out hb2) ((Below.refl _ _).alloc (Nat.le_refl _) (.cells #[.int .u8 21, .int .u64 0, .string c, .slice none 0 0] 27)))
      clear hb2
      go_wp2_with fail
      refine (put29 [.mk 21 0 c []] _ 1 1 _ (by have := HS.out; simp [bulkL, bulk]; omega) (kid21 c w2 _ rfl)).mono ?_
      rintro e w3 ⟨A1, l1, c1, rfl, hN3, hb3⟩
      obtain ⟨d0, d1, d2, d3, df⟩ := (HX2.out.call hb3).all
      have HN3 := Lib.hid hN3
      have HB3 := Lib.hid (below_next HB2.out hb3)
      have hs2 := HX2.out.lt
      clear hb3 hN3
      go_wp2
      refine bodyPost_ret (v := .tuple #[.agg #[.int .u8 25, .int .u64 0, .string ⟨#[]⟩, .slice A1 l1 c1], .int .i64 0]) (by simp [results, Tryd.results36, go_sem, d0, d1, d2, d3]) rfl ?_
      rw [HE.out, HE2.out]
      refine ⟨25, 0, ⟨#[]⟩, _, A1, l1, c1, rfl, by omega, by omega, rfl, ?_, below_set4 HB3.out (by omega) _ _ _ _⟩
      have hN3 := HN3.out
      rw [trim_sym] at hN3
      exact (hN3.far4 hs2 _ _ _ _).less (by have := HB2.out.size; omega)

theorem true_any (n : Nat) (w : World) : Calls Tryd.prog 40 #[.int .u64 (n : Int)] w (fun e w' => ∃ k m : Nat, flagV n = .mk k m ⟨#[]⟩ [] ∧ k < 256 ∧ m < 18446744073709551616 ∧ e = .returned (.agg #[.int .u8 (k : Int), .int .u64 (m : Int), .string ⟨#[]⟩, .slice none 0 0]) ∧ Below w.heap.size w w') := by
  have hx := Box.new w (.int .u8 0) (.int .u64 0) (.string ⟨#[]⟩) (.slice none 0 0)
  have hb0 : Below w.heap.size w (w.alloc (.cells #[.int .u8 0, .int .u64 0, .string ⟨#[]⟩, .slice none 0 0] 27)) := (Below.refl _ _).alloc (Nat.le_refl _) _
  have HX := Lib.hid hx
  have HB := Lib.hid hb0
  clear hx hb0
  by_cases h0 : n = 0
  · subst h0
    go_enter Tryd.func40, Tryd.ntmps40
    go_wp2_with fail
    refine (nul_new _).mono ?_
    rintro e w1 ⟨rfl, hb1⟩
    obtain ⟨d0, d1, d2, d3, df⟩ := (HX.out.call hb1).all
    have HB1 := Lib.hid (below_next HB.out hb1)
    clear hb1
    go_wp2
    refine bodyPost_ret (v := .agg #[.int .u8 1, .int .u64 0, .string ⟨#[]⟩, .slice none 0 0]) (by simp [results, Tryd.results40, go_sem, d0, d1, d2, d3]) rfl ?_
    exact ⟨1, 0, rfl, by omega, by omega, rfl, below_set4 HB1.out (by omega) _ _ _ _⟩
  · have HF : Hid (flagV n = .mk 2 1 ⟨#[]⟩ []) := Lib.hid (if_neg h0)
    have hd : ((n : Int) == 0) = false := by rw [beq_eq_false_iff_ne]; omega
    clear h0
    go_enter Tryd.func40, Tryd.ntmps40
    go_wp2_with fail
    refine (tru_new _).mono ?_
    rintro e w1 ⟨rfl, hb1⟩
    obtain ⟨d0, d1, d2, d3, df⟩ := (HX.out.call hb1).all
    have HB1 := Lib.hid (below_next HB.out hb1)
    clear hb1
    go_wp2
    refine bodyPost_ret (v := .agg #[.int .u8 2, .int .u64 1, .string ⟨#[]⟩, .slice none 0 0]) (by simp [results, Tryd.results40, go_sem, d0, d1, d2, d3]) rfl ?_
    exact ⟨2, 1, HF.out, by omega, by omega, rfl, below_set4 HB1.out (by omega) _ _ _ _⟩
end Go.Proofs.YtohmnbefokhjpaaDoor.Oc
