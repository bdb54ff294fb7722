/-
  Frames one behind the other, plain. No Go in it.
-/
import Derived.Test.YtemeigdielefiaaFrx
namespace Go.Proofs.Ytemeigdielefiaa.Fr
set_option maxRecDepth 100000
open Go.Proofs.Ytemeigdielefiaa.Utf Go.Proofs.Ytemeigdielefiaa.Enc

/-- The bytes of frames, one behind the other. -/
def rowF : List (Nat × List Nat) → List Nat
  | [] => []
  | f :: fs => layF f.1 f.2 ++ rowF fs
theorem rowF_append (a b : List (Nat × List Nat)) : rowF (a ++ b) = rowF a ++ rowF b := by
  induction a with
  | nil => rfl
  | cons f a ih => simp [rowF, ih]
theorem rowF_snoc {fs : List (Nat × List Nat)} {j : Nat} {f : Nat × List Nat} (h : fs[j]? = some f) : rowF (fs.take (j + 1)) = rowF (fs.take j) ++ layF f.1 f.2 := by
  rw [List.take_add_one, h, rowF_append]
  simp [rowF]
theorem rowF_drop {fs : List (Nat × List Nat)} {j : Nat} {f : Nat × List Nat} (h : fs[j]? = some f) : rowF (fs.drop j) = layF f.1 f.2 ++ rowF (fs.drop (j + 1)) := by
  obtain ⟨hj, rfl⟩ := List.getElem?_eq_some_iff.1 h
  rw [List.drop_eq_getElem_cons hj]
  rfl
end Go.Proofs.Ytemeigdielefiaa.Fr
