/-
  What Read tells of a head's bytes and of what begins them, plain. No Go in it.
-/
import Derived.Test.YtemeigdielefiaaFrx
namespace Go.Proofs.Ytemeigdielefiaa.Fr
set_option maxRecDepth 100000
open Go.Proofs.Ytemeigdielefiaa.Utf Go.Proofs.Ytemeigdielefiaa.Enc

/-- A head's bytes, and a body. -/
def hbF (S p t ch : Nat) (b : List Nat) : List Nat := be S 4 ++ [p, t] ++ be ch 2 ++ b
/-- From which byte on it is wrong; 9: never. -/
def wrF (S p t most : Nat) : Nat := if S < 8 ∨ most < S then 4 else if p < 2 ∨ S < 4 * p then 5 else if t ≠ 0 then 6 else 9
theorem hbF_len (S p t ch : Nat) (b : List Nat) : (hbF S p t ch b).length = 8 + b.length := by simp [hbF, be_length]; omega
theorem hbF_take4 (S p t ch : Nat) (b : List Nat) : (hbF S p t ch b).take 4 = be S 4 := by
  unfold hbF
  rw [List.append_assoc, List.append_assoc, List.take_append_of_le_length (by rw [be_length]; omega), List.take_of_length_le (by rw [be_length]; omega)]
theorem hbF_nF (S p t ch : Nat) (b : List Nat) (hS : S < 4294967296) : nF (hbF S p t ch b) = S := by
  unfold nF
  rw [hbF_take4, nb_be]
  exact Nat.mod_eq_of_lt hS
theorem hbF_at (S p t ch : Nat) (b : List Nat) : (hbF S p t ch b).getD 4 0 = p ∧ (hbF S p t ch b).getD 5 0 = t := by
  have e : hbF S p t ch b = be S 4 ++ (p :: t :: (be ch 2 ++ b)) := by simp [hbF]
  have h4 := be_length S 4
  rw [e]
  constructor
  · simp [h4]
  · simp [List.getElem?_append_right, h4]
theorem hbF_ch (S p t ch : Nat) (b : List Nat) (hc : ch < 65536) : chF (hbF S p t ch b) = ch := by
  have e : hbF S p t ch b = (be S 4 ++ [p, t]) ++ (be ch 2 ++ b) := by simp [hbF]
  unfold chF
  rw [e, List.drop_append_of_le_length (by simp [be_length]), List.drop_of_length_le (by simp [be_length]), List.nil_append, List.take_append_of_le_length (by rw [be_length]; omega), List.take_of_length_le (by rw [be_length]; omega), nb_be]
  exact Nat.mod_eq_of_lt hc
theorem hbF_er {S p t ch most : Nat} {b : List Nat} (hS : S < 4294967296) : erF (hbF S p t ch b) most = if wrF S p t most = 9 then (if (hbF S p t ch b).length < S then 7 else 0) else 6 := by
  have en : nb ((hbF S p t ch b).take 4) = S := hbF_nF S p t ch b hS
  have hl := hbF_len S p t ch b
  unfold erF
  rw [en, (hbF_at S p t ch b).1, (hbF_at S p t ch b).2, if_neg (by omega)]
  unfold wrF
  by_cases h1 : S < 8 ∨ most < S
  · rw [if_pos h1, if_pos h1, if_neg (by omega)]
  rw [if_neg h1, if_neg h1, if_neg (by omega)]
  by_cases h2 : p < 2 ∨ S < 4 * p
  · rw [if_pos h2, if_pos h2, if_neg (by omega)]
  rw [if_neg h2, if_neg h2, if_neg (by omega)]
  by_cases h3 : t ≠ 0
  · rw [if_pos h3, if_pos h3, if_neg (by omega)]
  · rw [if_neg h3, if_neg h3, if_pos rfl]
theorem hbF_cut {S p t ch most i : Nat} {b : List Nat} (hS : S < 4294967296) (hi : i ≤ 8) : (wrF S p t most ≤ i → erF ((hbF S p t ch b).take i) most = 6) ∧ (i < wrF S p t most → i < 8 → erF ((hbF S p t ch b).take i) most = 7) := by
  have hl : ((hbF S p t ch b).take i).length = i := by rw [List.length_take, hbF_len]; omega
  have en : nb ((hbF S p t ch b).take 4) = S := hbF_nF S p t ch b hS
  have hw : 4 ≤ wrF S p t most := by unfold wrF; (repeat' split) <;> omega
  unfold erF
  rw [hl]
  by_cases l4 : i < 4
  · rw [if_pos l4]
    exact ⟨fun h => by omega, fun _ _ => rfl⟩
  have t4 : ((hbF S p t ch b).take i).take 4 = (hbF S p t ch b).take 4 := by rw [List.take_take, Nat.min_eq_left (by omega)]
  rw [if_neg l4, t4, en]
  unfold wrF
  by_cases h1 : S < 8 ∨ most < S
  · rw [if_pos h1, if_pos h1]
    exact ⟨fun _ => rfl, fun h => by omega⟩
  rw [if_neg h1, if_neg h1]
  by_cases l5 : i < 5
  · rw [if_pos l5]
    exact ⟨fun h => by split at h <;> (try split at h) <;> omega, fun _ _ => rfl⟩
  rw [if_neg l5, getD_take (by omega), (hbF_at S p t ch b).1]
  by_cases h2 : p < 2 ∨ S < 4 * p
  · rw [if_pos h2, if_pos h2]
    exact ⟨fun _ => rfl, fun h => by omega⟩
  rw [if_neg h2, if_neg h2]
  by_cases l6 : i < 6
  · rw [if_pos l6]
    exact ⟨fun h => by split at h <;> omega, fun _ _ => rfl⟩
  rw [if_neg l6, getD_take (by omega), (hbF_at S p t ch b).2]
  by_cases h3 : t ≠ 0
  · rw [if_pos h3, if_pos h3]
    exact ⟨fun _ => rfl, fun h => by omega⟩
  · rw [if_neg h3, if_neg h3]
    exact ⟨fun h => by omega, fun _ h => by rw [if_pos (by omega)]⟩
end Go.Proofs.Ytemeigdielefiaa.Fr
