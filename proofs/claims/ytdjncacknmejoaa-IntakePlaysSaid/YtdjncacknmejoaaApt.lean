/-
  Contracts of the laws' meet and Apart: two rows of bytes of one's own, in blocks unlike, do not meet; all memory is as it was behind it. No other condition.
-/
import Derived.Test.YtdjncacknmejoaaMem
import Derived.Test.YtdjncacknmejoaaStack
import Derived.Deep.RegionHeld3
import Derived.Deep.CutRange
import Derived.Deep.RegionLaw
import Derived.Deep.QuietTactic
import Derived.BigQuiet
namespace Go.Proofs.Ytdjncacknmejoaa.Apt
set_option maxRecDepth 100000
open Go.RowKit Go.Proofs.Ytdjncacknmejoaa.Utf Go.Proofs.Ytdjncacknmejoaa.Val

/-- A block of bytes, in a world of which all else is as in w. -/
structure MR (w wr : World) (g : Nat) (L : List Nat) : Prop where
  row : wr.heap[g]? = some (.cells (vs .u8 L).toArray 5 (0, 0))
  oth : ∀ i, i ≠ g → wr.heap[i]? = w.heap[i]?
  size : wr.heap.size = w.heap.size
  os : wr.os = w.os
  tape : wr.tape = w.tape
  output : wr.output = w.output
theorem vs_set (L : List Nat) (j y : Nat) : (vs .u8 L).toArray.setIfInBounds j (.int .u8 (y : Int)) = (vs .u8 (L.set j y)).toArray := by
  simp [vs, List.map_set]
theorem MR.store {w wr : World} {g j y : Nat} {L : List Nat} (h : MR w wr g L) : MR w (wr.setCell ⟨g, j, none⟩ (.int .u8 (y : Int))) g (L.set j y) := by
  refine ⟨?_, fun i hi => (Below.heap_setCell wr ⟨g, j, none⟩ _ i hi).trans (h.oth i hi), by simpa using h.size, h.os, h.tape, h.output⟩
  have := h.row
  simp [World.setCell, Array.getElem?_modify, this]
  simpa using vs_set L j y
theorem MR.cell {w wr : World} {g j y : Nat} {L : List Nat} (h : MR w wr g L) (hj : L[j]? = some y) : wr.cell? ⟨g, j, none⟩ = some (.int .u8 (y : Int)) := by
  rw [cell_of_row wr g j _ _ _ h.row]
  simp [vs, hj]
theorem MR.frz {w wr : World} {g : Nat} {L : List Nat} (h : MR w wr g L) (j : Nat) : wr.frozen? ⟨g, j, none⟩ = false := by
  have := h.row
  simp [World.frozen?, this]
theorem MR.rd {w wr : World} {g B n : Nat} {A : Option Addr} {L l : List Nat} (h : MR w wr g L) (hr : Rd .u8 256 w B A n l) (hne : ∀ b o, A = some ⟨b, o, none⟩ → b ≠ g) : Rd .u8 256 wr B A n l := by
  refine ⟨hr.1, hr.2.1, fun hn => ?_⟩
  obtain ⟨b, o, e, hb, hc⟩ := hr.2.2 hn
  refine ⟨b, o, e, hb, fun k hk => ?_⟩
  rw [← hc k hk]
  simp only [World.cell?, h.oth b (hne b o e)]
theorem MR.below {w wr : World} {g : Nat} {L : List Nat} (h : MR w wr g L) (h0 : w.heap[g]? = some (.cells (vs .u8 L).toArray 5 (0, 0))) : Below w.heap.size w wr :=
  ⟨h.os, h.tape, h.output, Nat.le_of_eq h.size.symm, fun k _ => by
    by_cases hk : k = g
    · rw [hk, h.row, h0]
    · exact h.oth k hk⟩
/-- The row's own bytes, all its places. -/
theorem own_all {w : World} {base n c : Nat} {A : Option Addr} {L : List Nat} (h : Utf.Own .u8 256 5 w base A n c L) : (A = none ∧ c = 0) ∨ ∃ g CL, A = some ⟨g, 0, none⟩ ∧ w.heap[g]? = some (.cells (vs .u8 CL).toArray 5 (0, 0)) ∧ CL.length = c ∧ ∀ x ∈ CL, x < 256 := by
  rcases h.2.1.2 with ⟨e, _⟩ | ⟨g, cap, cur, e, _, hg, _, _, hsz, _⟩
  · injection e with e1 _ e3
    exact .inl ⟨e1, e3⟩
  · injection e with e1 _ e3
    subst e3
    have hq := h.2.2 g (by rw [e1]; rfl) cur _ _ hg
    have : ∀ l : List Value, (∀ u ∈ l, Nb .u8 256 u) → ∃ CL : List Nat, l = vs .u8 CL ∧ ∀ x ∈ CL, x < 256 := by
      intro l
      induction l with
      | nil => intro _; exact ⟨[], rfl, fun _ h => (by cases h)⟩
      | cons u l ih =>
        intro hl
        obtain ⟨x, hx, rfl⟩ := hl u (by simp)
        obtain ⟨CL, hCL, hlim⟩ := ih fun v hv => hl v (by simp [hv])
        exact ⟨x :: CL, by simp [vs, hCL], fun y hy => by rcases List.mem_cons.1 hy with rfl | hy; exact hx; exact hlim y hy⟩
    obtain ⟨CL, hCL, hlim⟩ := this cur.toList hq
    refine .inr ⟨g, CL, e1, ?_, ?_, hlim⟩
    · rw [hg, ← hCL]
    · have h1 := congrArg List.length hCL
      rw [vs_length] at h1
      rw [← h1]
      simpa using hsz

def f128 (x : Nat) : Nat := (x + 128) % 256
theorem f_f {x : Nat} (h : x < 256) : f128 (f128 x) = x := by unfold f128; omega
def turn (L : List Nat) (j : Nat) : List Nat := (L.take j).map f128 ++ L.drop j
theorem turn_zero (L : List Nat) : turn L 0 = L := by simp [turn]
theorem turn_all (L : List Nat) : turn L L.length = L.map f128 := by simp [turn]
theorem turn_at {L : List Nat} {j x : Nat} (h : L[j]? = some x) : (turn L j)[j]? = some x := by
  have hj := (List.getElem?_eq_some_iff.1 h).1
  unfold turn
  rw [List.getElem?_append_right (by simp; omega)]
  simp only [List.length_map, List.length_take, List.getElem?_drop]
  rw [show j + (j - min j L.length) = j by omega]
  exact h
theorem turn_set {L : List Nat} {j x : Nat} (h : L[j]? = some x) : (turn L j).set j (f128 x) = turn L (j + 1) := by
  obtain ⟨hj, e⟩ := List.getElem?_eq_some_iff.1 h
  unfold turn
  rw [List.set_append_right _ _ (by simp; omega), List.drop_eq_getElem_cons hj]
  simp only [List.length_map, List.length_take]
  rw [show j - min j L.length = 0 by omega, List.set_cons_zero, List.take_succ_eq_append_getElem hj, List.map_append, e]
  simp
theorem back (L : List Nat) (h : ∀ x ∈ L, x < 256) : (L.map f128).map f128 = L := by
  rw [List.map_map]
  conv => rhs; rw [← List.map_id L]
  exact List.map_congr_left fun x hx => f_f (h x hx)
theorem map_at {L : List Nat} {j : Nat} (h : j < L.length) : ∃ x, L[j]? = some x ∧ (L.map f128)[j]? = some (f128 x) := ⟨L[j], List.getElem?_eq_getElem h, by simp [List.getElem?_eq_getElem h]⟩

theorem cut_cap (A : Option Addr) (n c : Nat) :
    (∀ (W : World), (Instr.slice 24 (.slice A n c) none (some (.int .i64 (c : Int))) none).run Try.prog W = .ok (.slice A c c) W) ∧ (∀ (W : World), (Instr.sliceAt 24 (.slice A n c) none (some (.int .i64 (c : Int))) none).run Try.prog W = .ok (.slice A c c) W) := by
  have h1 : ∀ (W : World), (Instr.slice 24 (.slice A n c) none (some (.int .i64 (c : Int))) none).run Try.prog W = .ok (.slice A c c) W := fun W => by
    rw [run_slice_h (P := Try.prog) (w := W) 24 A n c under22 .i64 (c : Int) (by omega) (by omega), elem22, size5]
    simp only [Result.andThen, sliced]
    cases A <;> simp [Addr.add]
  refine ⟨h1, fun W => ?_⟩
  rw [run_sliceAt_slice (P := Try.prog) (w := W) 24 _ _ _ _ under22]; exact h1 W

/-- Two rows of one's own, in blocks unlike, and the row of both. -/
structure Duo2 (w : World) (g : Nat) (A1 : Option Addr) (n1 c1 : Nat) (L1 : List Nat) (A2 : Option Addr) (n2 c2 : Nat) (L2 : List Nat) (base : Nat) : Prop where
  row : w.heap[g]? = some (.cells #[.slice A1 n1 c1, .slice A2 n2 c2] 24 (0, 0))
  own1 : Utf.Own .u8 256 5 w base A1 n1 c1 L1
  own2 : Utf.Own .u8 256 5 w base A2 n2 c2 L2
  ne : ∀ b b' o, A1 = some ⟨b, 0, none⟩ → A2 = some ⟨b', o, none⟩ → b' ≠ b
theorem Duo2.call {w w' : World} {g : Nat} {A1 : Option Addr} {n1 c1 : Nat} {L1 : List Nat} {A2 : Option Addr} {n2 c2 : Nat} {L2 : List Nat} {base : Nat} (h : Duo2 w g A1 n1 c1 L1 A2 n2 c2 L2 base) (hb : Below w.heap.size w w') : Duo2 w' g A1 n1 c1 L1 A2 n2 c2 L2 base :=
  ⟨(hb.block g (Array.getElem?_eq_some_iff.1 h.row).1).trans h.row, h.own1.below hb, h.own2.below hb, h.ne⟩
theorem Duo2.cells {w : World} {g : Nat} {A1 : Option Addr} {n1 c1 : Nat} {L1 : List Nat} {A2 : Option Addr} {n2 c2 : Nat} {L2 : List Nat} {base : Nat} (h : Duo2 w g A1 n1 c1 L1 A2 n2 c2 L2 base) : w.cell? ⟨g, 0, none⟩ = some (.slice A1 n1 c1) ∧ w.cell? ⟨g, 1, none⟩ = some (.slice A2 n2 c2) := ⟨cell_of_row w g 0 _ _ _ h.row, cell_of_row w g 1 _ _ _ h.row⟩
theorem Duo2.held {w w' : World} {g : Nat} {A1 : Option Addr} {n1 c1 : Nat} {L1 : List Nat} {A2 : Option Addr} {n2 c2 : Nat} {L2 : List Nat} {base : Nat} (h : Duo2 w g A1 n1 c1 L1 A2 n2 c2 L2 base) (hb : Below w.heap.size w w') : w'.cell? ⟨g, 0, none⟩ = some (.slice A1 n1 c1) ∧ w'.cell? ⟨g, 1, none⟩ = some (.slice A2 n2 c2) ∧ Below w.heap.size w w' := ⟨(h.call hb).cells.1, (h.call hb).cells.2, hb⟩
end Go.Proofs.Ytdjncacknmejoaa.Apt
