/-
  Words for the walk of the statement EncodeArrays: two rows of values that the law itself makes, beside one another; what arrays of numbers, and of numbers that are called something, lay. No condition.
-/
import Derived.Test.YtophlpkbpjhhjaaDoorNumW
import Derived.Test.YtophlpkbpjhhjaaDoorCells
namespace Go.Proofs.YtophlpkbpjhhjaaDoor.encodeArrays
set_option maxRecDepth 100000
open Go.RowKit Go.Proofs.YtophlpkbpjhhjaaDoor.Utf Go.Proofs.YtophlpkbpjhhjaaDoor.Val Go.Proofs.YtophlpkbpjhhjaaDoor.Enc V encodeNumbers

def Far (B : Nat) (w : World) (A1 : Option Addr) (n1 c1 : Nat) (A2 : Option Addr) (n2 c2 : Nat) (i : Nat) : Prop := B ≤ i ∧ i < w.heap.size ∧ (Value.slice A1 n1 c1).ownBlock ≠ some i ∧ (Value.slice A2 n2 c2).ownBlock ≠ some i
/-- Two rows of values of the call's own. -/
structure Duo (B : Nat) (w : World) (A1 : Option Addr) (n1 c1 : Nat) (d1 : List V) (x1 : List Value) (A2 : Option Addr) (n2 c2 : Nat) (d2 : List V) (x2 : List Value) : Prop where
  own1 : w.ownsRow B 25 4 (.slice A1 n1 c1) n1 x1
  own2 : w.ownsRow B 25 4 (.slice A2 n2 c2) n2 x2
  cel1 : CellsOf w (Far B w A1 n1 c1 A2 n2 c2) d1 x1
  cel2 : CellsOf w (Far B w A1 n1 c1 A2 n2 c2) d2 x2
  ne : ∀ b, (Value.slice A1 n1 c1).ownBlock = some b → (Value.slice A2 n2 c2).ownBlock ≠ some b
section
variable {B : Nat} {w w' : World} {A1 : Option Addr} {n1 c1 : Nat} {d1 : List V} {x1 : List Value} {A2 : Option Addr} {n2 c2 : Nat} {d2 : List V} {x2 : List Value}
theorem Duo.nil (B : Nat) (w : World) : Duo B w none 0 0 [] [] none 0 0 [] [] := ⟨World.ownsRow_nil _ _ _ _, World.ownsRow_nil _ _ _ _, rfl, rfl, fun b h => by cases h⟩
theorem Duo.swap (h : Duo B w A1 n1 c1 d1 x1 A2 n2 c2 d2 x2) : Duo B w A2 n2 c2 d2 x2 A1 n1 c1 d1 x1 :=
  ⟨h.own2, h.own1, h.cel2.mono fun _ hi => ⟨hi.1, hi.2.1, hi.2.2.2, hi.2.2.1⟩, h.cel1.mono fun _ hi => ⟨hi.1, hi.2.1, hi.2.2.2, hi.2.2.1⟩, fun b hb e => h.ne b e hb⟩
theorem Duo.call (h : Duo B w A1 n1 c1 d1 x1 A2 n2 c2 d2 x2) (hb : Below w.heap.size w w') : Duo B w' A1 n1 c1 d1 x1 A2 n2 c2 d2 x2 :=
  ⟨h.own1.kept (grown_of_below hb) (by cases hv : (Value.slice A1 n1 c1).ownBlock <;> simp), h.own2.kept (grown_of_below hb) (by cases hv : (Value.slice A2 n2 c2).ownBlock <;> simp),
    (h.cel1.keep fun i hi => hb.block i hi.2.1).mono fun i hi => ⟨hi.1, Nat.lt_of_lt_of_le hi.2.1 hb.size, hi.2.2⟩, (h.cel2.keep fun i hi => hb.block i hi.2.1).mono fun i hi => ⟨hi.1, Nat.lt_of_lt_of_le hi.2.1 hb.size, hi.2.2⟩, h.ne⟩
theorem Duo.one (h : Duo B w A1 n1 c1 d1 x1 A2 n2 c2 d2 x2) : CS B w A1 n1 c1 d1 x1 := ⟨h.own1, h.cel1.mono fun _ hi => ⟨hi.1, hi.2.1, hi.2.2.1⟩⟩
theorem Duo.push {w2 w3 : World} (h : Duo B w2 A1 n1 c1 d1 x1 A2 n2 c2 d2 x2) {k m : Nat} {t : ByteArray} {ks : List V} {A' : Option Addr} {l' c' : Nat} (hk : k < 256) (hm : m < 18446744073709551616)
    (hK : Val.Kids true w2 (Far B w2 A1 n1 c1 A2 n2 c2) ks A' l' c') {g cap : Nat} (o : Obj)
    (hown : w3.ownsRow B 25 4 (.slice (some ⟨g, 0, none⟩) (n1 + 1) cap) (n1 + 1) (x1 ++ [.int .u8 (k : Int), .int .u64 (m : Int), .string t, .slice A' l' c'])) (hg : (w2.alloc o).grownBy w3 (Value.slice A1 n1 c1).ownBlock) (hat : (Value.slice A1 n1 c1).ownBlock = some g ∨ w2.heap.size ≤ g) :
    Duo B w3 (some ⟨g, 0, none⟩) (n1 + 1) cap (d1 ++ [.mk k m t ks]) (x1 ++ [.int .u8 (k : Int), .int .u64 (m : Int), .string t, .slice A' l' c']) A2 n2 c2 d2 x2 := by
  have hl2 := h.own2.lt
  have hgs := hg.size
  simp at hgs
  have hk1 : ∀ i, Far B w2 A1 n1 c1 A2 n2 c2 i → w3.heap[i]? = w2.heap[i]? := fun i hi =>
    (hg.block i (by have := hi.2.1; simp; omega) (fun e => hi.2.2.1 e.symm)).trans (Below.heap_alloc _ _ _ hi.2.1)
  have hk2 : ∀ i, Far B w2 A1 n1 c1 A2 n2 c2 i → Far B w3 (some ⟨g, 0, none⟩) (n1 + 1) cap A2 n2 c2 i := fun i hi => by
    have hi2 := hi.2.1
    refine ⟨hi.1, by omega, fun e => ?_, hi.2.2.2⟩
    have e2 : g = i := by simpa [Value.ownBlock] using e
    subst e2
    rcases hat with ha | ha
    · exact hi.2.2.1 ha
    · omega
  have hown2 : w3.ownsRow B 25 4 (.slice A2 n2 c2) n2 x2 := (h.own2.alloc o).kept hg (by
    cases hv : (Value.slice A2 n2 c2).ownBlock with
    | none => exact .inl rfl
    | some b => exact .inr fun e => h.ne b e.symm hv)
  refine ⟨hown, hown2, CellsOf.snoc hk hm ((hK.keep hk1).mono hk2) ((h.cel1.keep hk1).mono hk2), (h.cel2.keep hk1).mono hk2, fun b hb e => ?_⟩
  have e2 : g = b := by simpa [Value.ownBlock] using hb
  subst e2
  rcases hat with ha | ha
  · exact h.ne g ha e
  · have := (hl2 g e).2; omega
end
end Go.Proofs.YtophlpkbpjhhjaaDoor.encodeArrays
