/-
  Rows of yes and no in memory: made, read, written. No other condition.
-/
import Derived.Test.YtnbofokdhkoglaaTbo
namespace Go.Proofs.Ytnbofokdhkoglaa.Tb
set_option maxRecDepth 100000
open Go.RowKit Go.Proofs.Ytnbofokdhkoglaa.Utf

/-- A block of yes and no. -/
def BlkB (w : World) (h : Nat) (L : List Bool) : Prop := w.heap[h]? = some (.cells (L.map Value.bool).toArray 4 (0, 0))
theorem infoB : (Try.prog.info? 4).map (fun i => (i.zero, i.size, i.bytes)) = some (some (.bool false), 1, 1) := by kernel_rfl
section
variable {w w' : World} {h : Nat} {L : List Bool} {X : Nat → Prop}
theorem BlkB.lt (b : BlkB w h L) : h < w.heap.size := (Array.getElem?_eq_some_iff.1 b).1
theorem BlkB.off (b : BlkB w h L) (ho : Off X w w') (hx : ¬ X h) : BlkB w' h L := (ho.block h b.lt hx).trans b
theorem BlkB.call (b : BlkB w h L) (hb : Below w.heap.size w w') : BlkB w' h L := (hb.block h b.lt).trans b
theorem BlkB.cell {j : Nat} (b : BlkB w h L) (hj : j < L.length) : w.cell? ⟨h, j, none⟩ = some (.bool (hasT L (j : Int))) := by
  rw [cell_of_row w h j _ _ _ b, hasT_nat, List.getD_eq_getElem?_getD, List.getElem?_eq_getElem hj]
  simp [List.getElem?_eq_getElem hj]
theorem BlkB.frz (b : BlkB w h L) (j : Nat) : w.frozen? ⟨h, j, none⟩ = false := by
  have := b
  unfold BlkB at this
  simp [World.frozen?, this]
theorem BlkB.set (b : BlkB w h L) (j : Nat) (v : Bool) : BlkB (w.setCell ⟨h, j, none⟩ (.bool v)) h (L.set j v) := by
  have := b
  unfold BlkB at this ⊢
  simp [World.setCell, Array.getElem?_modify, this]
end
theorem wpList_makeB (w : World) {ops : Array Oper} {rest : List Oper} {o : Oper} {a : Act} {Q : Exit → Act → World → Prop} (hg : o.guard = none) (l c : Operand) (hop : o.op = Op.makeSlice 42 l c)
    (C : Int) (m : Nat) (hl : a.eval l = .int .i64 C) (hc : a.eval c = .int .i64 C) (hC : C = ((m + 1 : Nat) : Int)) (hm : m ≤ 65535)
    (hK : ∀ w', BlkB w' w.heap.size (List.replicate (m + 1) false) → Below w.heap.size w w' → wpList Try.prog ops Q rest (a.put o.dst (.slice (some ⟨w.heap.size, 0, none⟩) (m + 1) (m + 1))) w') :
    wpList Try.prog ops Q (o :: rest) a w := by
  refine wpList_plain hg fun KK hK' => ?_
  obtain ⟨i, hi, h3, h4, h5⟩ := info_parts infoB
  have b6 : (i.bytes : Int) * ((m + 1 : Nat) : Int) ≤ 281474976710656 := by rw [h5]; omega
  have hr := run_make (P := Try.prog) w 42 4 i (.bool false) Try.underlying42 hi h3 .i64 .i64 ((m + 1 : Nat) : Int) ((m + 1 : Nat) : Int) (by omega) (Int.le_refl _) b6 (by omega)
  rw [Int.toNat_natCast] at hr
  subst hC
  have hcells : madeCells (Value.bool false).cells ((m + 1) * i.size) = ((List.replicate (m + 1) false).map Value.bool).toArray := by
    rw [h4, Nat.mul_one]
    apply Array.ext'
    rw [List.map_replicate]
    apply List.ext_getElem
    · simp [madeCells]
    · intro k h1 h2
      simp [madeCells, Value.cells, Nat.mod_one]
  rw [hcells] at hr
  have hb : BlkB (w.alloc (.cells ((List.replicate (m + 1) false).map Value.bool).toArray 4)) w.heap.size (List.replicate (m + 1) false) := heap_alloc_new w _
  unfold Oper.wp
  simp only [execOp, hop, hl, hc, Sem.run_bind, hr, Result.andThen_ok]
  exact hK' _ _ (hK _ hb ((Below.refl _ _).alloc (Nat.le_refl _) _))
end Go.Proofs.Ytnbofokdhkoglaa.Tb
