/-
  Memory that was there stays, but for the blocks of X: words for objects that are written in place. No Go in it. No other condition.
-/
import Derived.Test.YtppcfkcnaaflgaaMem
import Derived.Maps.Range
import Derived.WalkSmall
namespace Go.Proofs.Ytppcfkcnaaflgaa.Ob
set_option maxRecDepth 100000
open Go.RowKit Go.Proofs.Ytppcfkcnaaflgaa.Utf

/-- Memory that was there stays, but for the blocks of X. -/
structure Off (X : Nat → Prop) (w w' : World) : Prop where
  os : w'.os = w.os
  tape : w'.tape = w.tape
  output : w'.output = w.output
  size : w.heap.size ≤ w'.heap.size
  block : ∀ i, i < w.heap.size → ¬ X i → w'.heap[i]? = w.heap[i]?
section
variable {X Y : Nat → Prop} {w w1 w2 : World}
theorem Off.refl (X : Nat → Prop) (w : World) : Off X w w := ⟨rfl, rfl, rfl, Nat.le_refl _, fun _ _ _ => rfl⟩
theorem Off.trans (h : Off X w w1) (h' : Off X w1 w2) : Off X w w2 :=
  ⟨h'.os.trans h.os, h'.tape.trans h.tape, h'.output.trans h.output, Nat.le_trans h.size h'.size, fun i hi hx => (h'.block i (Nat.lt_of_lt_of_le hi h.size) hx).trans (h.block i hi hx)⟩
theorem Off.mono (h : Off X w w1) (hx : ∀ i, i < w.heap.size → X i → Y i) : Off Y w w1 := ⟨h.os, h.tape, h.output, h.size, fun i hi hn => h.block i hi fun hX => hn (hx i hi hX)⟩
theorem Off.of (X : Nat → Prop) (h : Below w.heap.size w w1) : Off X w w1 := ⟨h.os, h.tape, h.output, h.size, fun i hi _ => h.block i hi⟩
theorem Off.next (h : Off X w w1) (hb : Below w1.heap.size w1 w2) : Off X w w2 := h.trans (Off.of X hb)
theorem Off.below {B : Nat} (h : Off X w w1) (hB : B ≤ w.heap.size) (hx : ∀ i, i < B → ¬ X i) : Below B w w1 := ⟨h.os, h.tape, h.output, h.size, fun i hi => h.block i (Nat.lt_of_lt_of_le hi hB) (hx i hi)⟩
theorem Off.set (w : World) {g : Nat} (j : Nat) (v : Value) (hx : X g) : Off X w (w.setCell ⟨g, j, none⟩ v) := ⟨rfl, rfl, rfl, by simp, fun i _ hn => Below.heap_setCell w ⟨g, j, none⟩ v i (fun e => hn (e ▸ hx))⟩
theorem Off.drew (h : Off X w w1) : Off X w w1.drew := ⟨h.os, h.tape, h.output, h.size, h.block⟩
theorem Off.drewN (h : Off X w w1) (k : Nat) : Off X w (w1.drewN k) := ⟨h.os, h.tape, h.output, h.size, h.block⟩
theorem Off.alloc (h : Off X w w1) (o : Obj) : Off X w (w1.alloc o) := h.next ((Below.refl _ _).alloc (Nat.le_refl _) o)
end
theorem ba {a w : World} (h : Below a.heap.size a w) (o : Obj) : Below a.heap.size a (w.alloc o) := h.alloc h.size o
theorem bn {a w w' : World} (h : Below a.heap.size a w) (h' : Below w.heap.size w w') : Below a.heap.size a w' := h.trans (h'.mono h.size)
theorem bd {a w : World} (h : Below a.heap.size a w) : Below a.heap.size a w.drew := h.drew
theorem bdn {a w : World} (h : Below a.heap.size a w) (k : Nat) : Below a.heap.size a (w.drewN k) := below_drewN h k
/-- Memory that was there ahead of an object stays, whatever is done with that. -/
theorem bo {w0 w w' : World} {X : Nat → Prop} (hb : Below w0.heap.size w0 w) (ho : Off X w w') (hx : ∀ i, i < w0.heap.size → ¬ X i) : Below w0.heap.size w0 w' := hb.trans (ho.below hb.size hx)
theorem frz_of {w : World} {p : Nat} {cs : Array Value} {ty : TypeId} (j : Nat) (h : w.heap[p]? = some (.cells cs ty (0, 0))) : w.frozen? ⟨p, j, none⟩ = false := by simp [World.frozen?, h]
end Go.Proofs.Ytppcfkcnaaflgaa.Ob
