/-
  Contracts of the document's CopyAll, Copy, Many, Desc: values in new memory. Memory that was there stays. Condition: values of bulk at most 2^30.
-/
import Derived.Test.YtohmnbefokhjpaaDoorCells
import Derived.Test.YtohmnbefokhjpaaDoorStack
import Derived.Deep.RegionWith
namespace Go.Proofs.YtohmnbefokhjpaaDoor.Val
open Go.RowKit Go.Proofs.YtohmnbefokhjpaaDoor.Utf V

/-- A slice of values in new memory is answered. -/
def GivesL (ks : List V) (w : World) (e : Ending) (w' : World) : Prop := ∃ A l c, e = .returned (.slice A l c) ∧ Nw w.heap.size w' ks A l c ∧ Below w.heap.size w w'
/-- A value with its kids in new memory is answered. -/
def GivesN (k n : Nat) (t : ByteArray) (ks : List V) (w : World) (e : Ending) (w' : World) : Prop := ∃ A l c, e = .returned (.agg #[.int .u8 k, .int .u64 n, .string t, .slice A l c]) ∧ Nw w.heap.size w' ks A l c ∧ Below w.heap.size w w'

theorem Nw.far {B : Nat} {w : World} {ks : List V} {A : Option Addr} {l c : Nat} (h : Nw B w ks A l c) {p : Addr} (hp : p.block < B) (u : Value) : Nw B (w.setCell p u) ks A l c :=
  (h.keep fun i hi => Below.heap_setCell w p u i (by have := hi.1; omega)).mono fun i hi => ⟨hi.1, by have := hi.2; simpa using this⟩
theorem Nw.far4 {B : Nat} {w : World} {ks : List V} {A : Option Addr} {l c : Nat} (h : Nw B w ks A l c) {g : Nat} (hp : g < B) (x0 x1 x2 x3 : Value) : Nw B ((((w.setCell ⟨g, 0, none⟩ x0).setCell ⟨g, 1, none⟩ x1).setCell ⟨g, 2, none⟩ x2).setCell ⟨g, 3, none⟩ x3) ks A l c :=
  (((h.far (p := ⟨g, 0, none⟩) hp _).far (p := ⟨g, 1, none⟩) hp _).far (p := ⟨g, 2, none⟩) hp _).far (p := ⟨g, 3, none⟩) hp _

theorem news4 (w : World) (x y z u : Value) (e : TypeId) (H : Nat) (hH : w.heap.size = H) : ∀ j v, [x, y, z, u][j]? = some v → (w.alloc (.cells #[x, y, z, u] e)).cell? ((⟨H, 0, none⟩ : Addr).add j) = some v := by
  subst hH
  intro j v hv
  have hj : j < 4 := (List.getElem?_eq_some_iff.1 hv).1
  obtain rfl | rfl | rfl | rfl : j = 0 ∨ j = 1 ∨ j = 2 ∨ j = 3 := by omega
  all_goals rw [← hv]; simp [Addr.add]

end Go.Proofs.YtohmnbefokhjpaaDoor.Val
