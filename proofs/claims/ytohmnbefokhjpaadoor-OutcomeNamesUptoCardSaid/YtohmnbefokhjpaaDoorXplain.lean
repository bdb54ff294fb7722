/-
  Contract of the document's plain: may a value without kids be? Condition: a text of at most 2^30 bytes.
  Contract of the document's plain, at every kind.
-/
import Derived.Test.YtohmnbefokhjpaaDoorRalo
namespace Go.Proofs.YtohmnbefokhjpaaDoor.Val
set_option maxRecDepth 100000
open Go.RowKit Go.Proofs.YtohmnbefokhjpaaDoor.Utf V

theorem emptyB_list (t : ByteArray) : t.toList.isEmpty = emptyB t := by
  by_cases h : t.size = 0
  · obtain rfl := empty_eq h
    rw [empty_yes]; simp
  · rw [empty_no' h]
    exact (show emptyB t = false by simpa [emptyB] using h).symm
theorem one_box (w : World) (o : Obj) : Below w.heap.size w (w.alloc o) := (Below.refl _ _).alloc (Nat.le_refl _) _

/-- What the document's plain answers. -/
noncomputable def plainOk (k n : Nat) (t : ByteArray) (l : Nat) : Bool := if 22 ≤ k ∧ k ≤ 25 then false else decide (l = 0) && aloneOk k n t l
end Go.Proofs.YtohmnbefokhjpaaDoor.Val

namespace Go.Proofs.YtohmnbefokhjpaaDoor.Val
set_option maxRecDepth 100000
open Go.RowKit Go.Proofs.YtohmnbefokhjpaaDoor.Utf V

theorem GivesB.cast {p q : Bool} {w w' : World} {e : Ending} (h : GivesB p w e w') (hq : p = q) : GivesB q w e w' := hq ▸ h
theorem calls_cast {f : FuncId} {xs : Array Value} {p q : Bool} {w : World} (h : Calls Tryd.prog f xs w (GivesB p w)) (hq : p = q) : Calls Tryd.prog f xs w (GivesB q w) := hq ▸ h

end Go.Proofs.YtohmnbefokhjpaaDoor.Val
