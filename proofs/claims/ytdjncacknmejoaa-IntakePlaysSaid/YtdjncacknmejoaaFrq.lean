/-
  Frames as bytes, plain: what Write makes ('layF'), what Read tells ('rdF'), and that these fit one another. No Go in it.
-/
import Derived.Test.YtdjncacknmejoaaFrt
namespace Go.Proofs.Ytdjncacknmejoaa.Fr
set_option maxRecDepth 100000
open Go.Proofs.Ytdjncacknmejoaa.Utf Go.Proofs.Ytdjncacknmejoaa.Enc

/-- A frame's bytes. -/
def layF (ch : Nat) (b : List Nat) : List Nat := be (8 + b.length) 4 ++ [2, 0] ++ be ch 2 ++ b
/-- Which error Read answers: 0 none, 6 ErrForm, 7 ErrShort. -/
def erF (b : List Nat) (most : Nat) : Nat :=
  if b.length < 4 then 7 else
  if nb (b.take 4) < 8 ∨ most < nb (b.take 4) then 6 else
  if b.length < 5 then 7 else
  if b.getD 4 0 < 2 ∨ nb (b.take 4) < 4 * b.getD 4 0 then 6 else
  if b.length < 6 then 7 else
  if b.getD 5 0 ≠ 0 then 6 else
  if b.length < nb (b.take 4) then 7 else 0
/-- What Read tells: the channel, the body, how many bytes. -/
def chF (b : List Nat) : Nat := nb ((b.drop 6).take 2)
def nF (b : List Nat) : Nat := nb (b.take 4)
def bodyF (b : List Nat) : List Nat := (b.drop (4 * b.getD 4 0)).take (nF b - 4 * b.getD 4 0)

theorem layF_length (ch : Nat) (b : List Nat) : (layF ch b).length = 8 + b.length := by simp [layF, be_length]; omega
theorem layF_byte (ch : Nat) (b : List Nat) (h : ∀ x ∈ b, x < 256) : ∀ x ∈ layF ch b, x < 256 := by
  intro x hx
  simp only [layF, List.mem_append, List.mem_cons, List.not_mem_nil, or_false] at hx
  rcases hx with ((hx | hx) | hx) | hx
  · exact be_byte _ _ x hx
  · omega
  · exact be_byte _ _ x hx
  · exact h x hx
theorem layF_nF (ch : Nat) (b more : List Nat) (h : 8 + b.length < 4294967296) : nF (layF ch b ++ more) = 8 + b.length := by
  unfold nF layF
  rw [List.append_assoc, List.append_assoc, List.append_assoc, List.take_append_of_le_length (by rw [be_length]; omega), List.take_of_length_le (by rw [be_length]; omega), nb_be]
  exact Nat.mod_eq_of_lt h
theorem layF_at (ch : Nat) (b more : List Nat) : (layF ch b ++ more).getD 4 0 = 2 ∧ (layF ch b ++ more).getD 5 0 = 0 := by
  have e : layF ch b ++ more = be (8 + b.length) 4 ++ (2 :: 0 :: (be ch 2 ++ (b ++ more))) := by simp [layF]
  rw [e]
  have h4 := be_length (8 + b.length) 4
  constructor
  · simp [h4]
  · simp [List.getElem?_append_right, h4]
theorem layF_ch (ch : Nat) (b more : List Nat) (h : ch < 65536) : chF (layF ch b ++ more) = ch := by
  have e : layF ch b ++ more = (be (8 + b.length) 4 ++ [2, 0]) ++ (be ch 2 ++ (b ++ more)) := by simp [layF]
  unfold chF
  rw [e, List.drop_append_of_le_length (by simp [be_length]), List.drop_of_length_le (by simp [be_length]), List.nil_append, List.take_append_of_le_length (by rw [be_length]; omega), List.take_of_length_le (by rw [be_length]; omega), nb_be]
  exact Nat.mod_eq_of_lt h
theorem layF_body (ch : Nat) (b more : List Nat) (h : 8 + b.length < 4294967296) : bodyF (layF ch b ++ more) = b := by
  have e : layF ch b ++ more = (be (8 + b.length) 4 ++ [2, 0] ++ be ch 2) ++ (b ++ more) := by simp [layF]
  unfold bodyF
  rw [layF_nF ch b more h, (layF_at ch b more).1, e, List.drop_append_of_le_length (by simp [be_length]), List.drop_of_length_le (by simp [be_length]), List.nil_append, List.take_append_of_le_length (by omega), List.take_of_length_le (by omega)]
theorem layF_er (ch : Nat) (b more : List Nat) (most : Nat) (h : 8 + b.length < 4294967296) : erF (layF ch b ++ more) most = if most < 8 + b.length then 6 else 0 := by
  have e1 : nb ((layF ch b ++ more).take 4) = 8 + b.length := layF_nF ch b more h
  have hl : (layF ch b ++ more).length = 8 + b.length + more.length := by rw [List.length_append, layF_length]
  unfold erF
  rw [e1, hl, (layF_at ch b more).1, (layF_at ch b more).2]
  by_cases hm : most < 8 + b.length
  · rw [if_neg (by omega), if_pos (by omega), if_pos hm]
  · rw [if_neg (by omega), if_neg (by omega), if_neg (by omega), if_neg (by omega), if_neg (by omega), if_neg (by omega), if_neg (by omega), if_neg hm]
end Go.Proofs.Ytdjncacknmejoaa.Fr
