/-
  Apart, of two and of three rows of bytes of one's own. No other condition.
-/
import Derived.Test.YtemeigdielefiaaApm
import Derived.Test.YtemeigdielefiaaRm
namespace Go.Proofs.Ytemeigdielefiaa.Fr
set_option maxRecDepth 100000
open Go.RowKit Go.Proofs.Ytemeigdielefiaa.Utf Go.Proofs.Ytemeigdielefiaa.Apt

theorem apart2 {w : World} {g base x : Nat} {A1 : Option Addr} {n1 c1 : Nat} {L1 : List Nat} {A2 : Option Addr} {n2 c2 : Nat} {L2 : List Nat} (row : w.heap[g]? = some (.cells #[.slice A1 n1 c1, .slice A2 n2 c2] 23 (0, 0))) (o1 : Own .u8 256 5 w base A1 n1 c1 L1) (o2 : Own .u8 256 5 w base A2 n2 c2 L2)
    (h1 : ∀ b o, A1 = some ⟨b, o, none⟩ → x ≤ b) (h2 : ∀ b o, A2 = some ⟨b, o, none⟩ → b < x) : Calls Try.prog 15 #[.slice (some ⟨g, 0, none⟩) 2 2] w (Val.GivesB true w) := by
  refine apart_many w g 2 2 base (fun i => if i = 0 then A1 else A2) (fun i => if i = 0 then n1 else n2) (fun i => if i = 0 then c1 else c2) (fun i => if i = 0 then L1 else L2) ⟨?_, (Array.getElem?_eq_some_iff.1 row).1, ?_, ?_⟩ (by omega)
  · intro i hi
    obtain rfl | rfl : i = 0 ∨ i = 1 := by omega
    · exact cell_of_row w g 0 _ _ _ row
    · exact cell_of_row w g 1 _ _ _ row
  · intro i hi
    obtain rfl | rfl : i = 0 ∨ i = 1 := by omega
    · exact o1
    · exact o2
  · intro i k hi hk hne b b' o e e'
    obtain ⟨rfl, rfl⟩ | ⟨rfl, rfl⟩ : (i = 0 ∧ k = 1) ∨ (i = 1 ∧ k = 0) := by omega
    · have := h1 b 0 e
      have := h2 b' o e'
      omega
    · have := h2 b 0 e
      have := h1 b' o e'
      omega
theorem apart3 {w : World} {g base x y : Nat} {A1 : Option Addr} {n1 c1 : Nat} {L1 : List Nat} {A2 : Option Addr} {n2 c2 : Nat} {L2 : List Nat} {A3 : Option Addr} {n3 c3 : Nat} {L3 : List Nat} (row : w.heap[g]? = some (.cells #[.slice A1 n1 c1, .slice A2 n2 c2, .slice A3 n3 c3] 23 (0, 0))) (o1 : Own .u8 256 5 w base A1 n1 c1 L1) (o2 : Own .u8 256 5 w base A2 n2 c2 L2) (o3 : Own .u8 256 5 w base A3 n3 c3 L3)
    (h1 : ∀ b o, A1 = some ⟨b, o, none⟩ → x ≤ b ∧ b < y) (h2 : ∀ b o, A2 = some ⟨b, o, none⟩ → y ≤ b) (h3 : ∀ b o, A3 = some ⟨b, o, none⟩ → b < x) (hxy : x ≤ y) : Calls Try.prog 15 #[.slice (some ⟨g, 0, none⟩) 3 3] w (Val.GivesB true w) := by
  refine apart_many w g 3 3 base (fun i => if i = 0 then A1 else if i = 1 then A2 else A3) (fun i => if i = 0 then n1 else if i = 1 then n2 else n3) (fun i => if i = 0 then c1 else if i = 1 then c2 else c3) (fun i => if i = 0 then L1 else if i = 1 then L2 else L3) ⟨?_, (Array.getElem?_eq_some_iff.1 row).1, ?_, ?_⟩ (by omega)
  · intro i hi
    obtain rfl | rfl | rfl : i = 0 ∨ i = 1 ∨ i = 2 := by omega
    · exact cell_of_row w g 0 _ _ _ row
    · exact cell_of_row w g 1 _ _ _ row
    · exact cell_of_row w g 2 _ _ _ row
  · intro i hi
    obtain rfl | rfl | rfl : i = 0 ∨ i = 1 ∨ i = 2 := by omega
    · exact o1
    · exact o2
    · exact o3
  · intro i k hi hk hne b b' o e e'
    have hi3 : i = 0 ∨ i = 1 ∨ i = 2 := by omega
    have hk3 : k = 0 ∨ k = 1 ∨ k = 2 := by omega
    rcases hi3 with rfl | rfl | rfl <;> rcases hk3 with rfl | rfl | rfl
    · exact absurd rfl hne
    · have := h1 b 0 e; have := h2 b' o e'; omega
    · have := h1 b 0 e; have := h3 b' o e'; omega
    · have := h2 b 0 e; have := h1 b' o e'; omega
    · exact absurd rfl hne
    · have := h2 b 0 e; have := h3 b' o e'; omega
    · have := h3 b 0 e; have := h1 b' o e'; omega
    · have := h3 b 0 e; have := h2 b' o e'; omega
    · exact absurd rfl hne
end Go.Proofs.Ytemeigdielefiaa.Fr
