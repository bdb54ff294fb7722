/-
  The document's tables: New, Has, Hold, Take, Free, All, and a step of them. Memory that was there stays, but for the row's own block. No other condition.
-/
import Derived.Test.YtnbofokdhkoglaaTbb
import Derived.Test.YtnbofokdhkoglaaTbc
namespace Go.Proofs.Ytnbofokdhkoglaa.Tb
set_option maxRecDepth 100000
open Go.RowKit Go.Proofs.Ytnbofokdhkoglaa.Utf

/-- A table of the document's: its own block gx, its row h. -/
structure Xin (w : World) (gx h : Nat) (L : List Bool) : Prop where
  obj : w.heap[gx]? = some (.cells #[.slice (some ⟨h, 0, none⟩) L.length L.length] 52 (0, 0))
  row : BlkB w h L
  ne : gx ≠ h
  lo : 1 ≤ L.length
  hi : L.length ≤ 65536
section
variable {w w' : World} {gx h : Nat} {L : List Bool} {X : Nat → Prop}
theorem Xin.glt (t : Xin w gx h L) : gx < w.heap.size := (Array.getElem?_eq_some_iff.1 t.obj).1
theorem Xin.off (t : Xin w gx h L) (ho : Off X w w') (hg : ¬ X gx) (hh : ¬ X h) : Xin w' gx h L := ⟨(ho.block gx t.glt hg).trans t.obj, t.row.off ho hh, t.ne, t.lo, t.hi⟩
theorem Xin.call (t : Xin w gx h L) (hb : Below w.heap.size w w') : Xin w' gx h L := t.off (X := fun _ => False) (Off.of _ hb) id id
theorem Xin.set (t : Xin w gx h L) (j : Nat) (v : Bool) : Xin (w.setCell ⟨h, j, none⟩ (.bool v)) gx h (L.set j v) ∧ Off (fun i => i = h) w (w.setCell ⟨h, j, none⟩ (.bool v)) := by
  refine ⟨⟨?_, t.row.set j v, t.ne, by rw [List.length_set]; exact t.lo, by rw [List.length_set]; exact t.hi⟩, Off.set _ _ _ rfl⟩
  rw [Below.heap_setCell _ _ _ _ (by exact t.ne), List.length_set]
  exact t.obj
theorem Xin.cell (t : Xin w gx h L) : w.cell? ⟨gx, 0, none⟩ = some (.slice (some ⟨h, 0, none⟩) L.length L.length) := cell_of_row _ _ 0 _ _ _ t.obj
end
theorem xnew_no (m : Int) (w : World) (h : ¬ (0 ≤ m ∧ m ≤ 65535)) : Calls Try.prog 10 #[.int .i64 m] w fun e w' => e = .returned (.tuple #[.pointer none, .int .i64 1]) ∧ w = w' := by
  by_cases h1 : m < 0
  · have d1 : decide (m < 0) = true := by simpa using h1
    clear h h1
    go_enter Try.func10, Try.ntmps10
    go_wp2
    refine bodyPost_ret (v := .tuple #[.pointer none, .int .i64 1]) (by simp [results, Try.results10, go_sem]) rfl ?_
    exact ⟨rfl, rfl⟩
  · have d1 : decide (m < 0) = false := by simpa using h1
    have d2 : decide (65536 ≤ m) = true := by simp; omega
    clear h h1
    go_enter Try.func10, Try.ntmps10
    go_wp2
    refine bodyPost_ret (v := .tuple #[.pointer none, .int .i64 1]) (by simp [results, Try.results10, go_sem]) rfl ?_
    exact ⟨rfl, rfl⟩
def GivesXNew (m : Nat) (w : World) (e : Ending) (w' : World) : Prop := ∃ gx h, e = .returned (.tuple #[.pointer (some ⟨gx, 0, none⟩), .int .i64 0]) ∧ Xin w' gx h (noneT m) ∧ w.heap.size ≤ gx ∧ w.heap.size ≤ h ∧ Below w.heap.size w w'
set_option maxHeartbeats 1000000 in
theorem xnew_yes (m : Nat) (w : World) (hm : m ≤ 65535) : Calls Try.prog 10 #[.int .i64 (m : Int)] w (GivesXNew m w) := by
  have d1 : decide ((m : Int) < 0) = false := by simp
  have d2 : decide (65536 ≤ (m : Int)) = false := by simp; omega
  have iw1 : IntKind.i64.wrap ((m : Int) + 1) = ((m + 1 : Nat) : Int) := by rw [show (m : Int) + 1 = ((m + 1 : Nat) : Int) by simp]; exact IntWalk.i64_in _ (by omega)
  have HM := Lib.hid hm
  go_enter Try.func10, Try.ntmps10
  go_wp2_with (first
    | (refine wpList_makeB _ rfl _ _ rfl _ m rfl rfl (by first | rfl | simp) HM.out ?_; intro w2 hk2 hb2)
    | go_in)
  refine bodyPost_ret (v := .tuple #[.pointer (some ⟨w2.heap.size, 0, none⟩), .int .i64 0]) (by simp [results, Try.results10, go_sem]) rfl ?_
  have hl : (noneT m).length = m + 1 := by simp [noneT]
  refine ⟨w2.heap.size, w.heap.size, rfl, ⟨?_, hk2.off (Off.alloc (Off.refl (fun _ => False) _) _) id, ?_, by omega, by omega⟩, hb2.size, Nat.le_refl _, ba hb2 _⟩
  · rw [hl]
    exact heap_alloc_new w2 _
  · have := hk2.lt
    omega
section
variable {gx h : Nat} {L : List Bool}
set_option maxHeartbeats 1000000 in
theorem xhas_any (x : Int) (w : World) (t : Xin w gx h L) : Calls Try.prog 14 #[.pointer (some ⟨gx, 0, none⟩), .int .i64 x] w fun e w' => e = .returned (.bool (hasT L x)) ∧ w = w' := by
  have x0 := t.cell
  by_cases h0 : 0 ≤ x
  · have d1 : decide (0 ≤ x) = true := by simpa using h0
    by_cases h1 : x < L.length
    · have d2 : decide (x < (L.length : Int)) = true := by simpa using h1
      obtain ⟨i, rfl⟩ := Int.eq_ofNat_of_zero_le h0
      have z := t.row.cell (j := i) (by omega)
      generalize hasT L (i : Int) = v at z ⊢
      clear t
      go_enter Try.func14, Try.ntmps14
      go_wp2
      go_ret
      exact ⟨rfl, rfl⟩
    · have d2 : decide (x < (L.length : Int)) = false := by simpa using h1
      rw [hasT_far (by omega)]
      clear t h1
      go_enter Try.func14, Try.ntmps14
      go_wp2
      go_ret
      exact ⟨rfl, rfl⟩
  · have d1 : decide (0 ≤ x) = false := by simpa using h0
    rw [hasT_neg (by omega)]
    clear t h0
    go_enter Try.func14, Try.ntmps14
    go_wp2
    go_ret
    exact ⟨rfl, rfl⟩
def GivesX (gx h : Nat) (L : List Bool) (v : Value) (w : World) (e : Ending) (w' : World) : Prop := e = .returned v ∧ Xin w' gx h L ∧ Off (fun i => i = h) w w'
set_option maxHeartbeats 1000000 in
theorem xhold_any (x : Int) (w : World) (t : Xin w gx h L) : Calls Try.prog 23 #[.pointer (some ⟨gx, 0, none⟩), .int .i64 x] w (GivesX gx h (rowT L 0 x) (.bool (mayT L x)) w) := by
  have x0 := t.cell
  have HT := Lib.hid t
  by_cases h0 : x < 0
  · have d1 : decide (x < 0) = true := by simpa using h0
    have hm : mayT L x = false := by
      cases hq : mayT L x
      · rfl
      · have := mayT_iff.1 hq; omega
    have hr : rowT L 0 x = L := by simp [rowT, hm]
    rw [hm, hr]
    clear t h0 hm hr
    go_enter Try.func23, Try.ntmps23
    go_wp2
    go_ret
    exact ⟨rfl, HT.out, Off.refl _ _⟩
  · have d1 : decide (x < 0) = false := by simpa using h0
    by_cases h1 : (L.length : Int) ≤ x
    · have d2 : decide ((L.length : Int) ≤ x) = true := by simpa using h1
      have hm : mayT L x = false := by
        cases hq : mayT L x
        · rfl
        · have := mayT_iff.1 hq; omega
      have hr : rowT L 0 x = L := by simp [rowT, hm]
      rw [hm, hr]
      clear t h0 hm hr
      go_enter Try.func23, Try.ntmps23
      go_wp2
      go_ret
      exact ⟨rfl, HT.out, Off.refl _ _⟩
    · have d2 : decide ((L.length : Int) ≤ x) = false := by simpa using h1
      obtain ⟨i, rfl⟩ := Int.eq_ofNat_of_zero_le (show 0 ≤ x by omega)
      have z := t.row.cell (j := i) (by omega)
      have zf := t.row.frz i
      have f0 : (0 : Int) ≤ (i : Int) := by omega
      have f1 : (i : Int) < (L.length : Int) := by omega
      cases hh : hasT L (i : Int)
      · have hm : mayT L (i : Int) = true := mayT_iff.2 ⟨by omega, by omega, hh⟩
        have hr : rowT L 0 (i : Int) = L.set i true := by simp [rowT, hm]
        rw [hm, hr]
        rw [hh] at z
        clear t hm hr hh
        go_enter Try.func23, Try.ntmps23
        go_wp2
        go_ret
        exact ⟨rfl, HT.out.set i true⟩
      · have hm : mayT L (i : Int) = false := by simp [mayT, hh]
        have hr : rowT L 0 (i : Int) = L := by simp [rowT, hm]
        rw [hm, hr]
        rw [hh] at z
        clear t hm hr hh
        go_enter Try.func23, Try.ntmps23
        go_wp2
        go_ret
        exact ⟨rfl, HT.out, Off.refl _ _⟩
end
end Go.Proofs.Ytnbofokdhkoglaa.Tb
