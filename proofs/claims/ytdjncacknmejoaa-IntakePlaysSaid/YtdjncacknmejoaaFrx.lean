/-
  What Read tells of bytes that are cut, and of bytes with more behind them, plain. No Go in it.
-/
import Derived.Test.YtdjncacknmejoaaFrp
namespace Go.Proofs.Ytdjncacknmejoaa.Fr
set_option maxRecDepth 100000
open Go.Proofs.Ytdjncacknmejoaa.Utf Go.Proofs.Ytdjncacknmejoaa.Enc

theorem getD_take {l : List Nat} {k j : Nat} (h : j < k) : (l.take k).getD j 0 = l.getD j 0 := by
  simp [List.getD_eq_getElem?_getD, h]
theorem getD_app {l m : List Nat} {j : Nat} (h : j < l.length) : (l ++ m).getD j 0 = l.getD j 0 := by
  simp [List.getD_eq_getElem?_getD, List.getElem?_append_left h]
/-- With the last bytes wanting it is short. -/
theorem erF_cut {b : List Nat} {most k : Nat} (h : erF b most = 0) (hk : k < nF b) : erF (b.take k) most = 7 := by
  obtain ⟨e1, e2, e3, e4, e5, e6⟩ := erF_ok h
  have hl : (b.take k).length = k := by rw [List.length_take]; omega
  unfold erF
  rw [hl]
  by_cases l4 : k < 4
  · rw [if_pos l4]
  have t4 : (b.take k).take 4 = b.take 4 := by rw [List.take_take, Nat.min_eq_left (by omega)]
  rw [if_neg l4, t4]
  have en : nb (b.take 4) = nF b := rfl
  rw [en, if_neg (by omega)]
  by_cases l5 : k < 5
  · rw [if_pos l5]
  rw [if_neg l5, getD_take (by omega), if_neg (by omega)]
  by_cases l6 : k < 6
  · rw [if_pos l6]
  rw [if_neg l6, getD_take (by omega), if_neg (by omega), if_pos hk]
/-- With more behind it is the same. -/
theorem erF_more {b : List Nat} {most : Nat} (m : List Nat) (h : erF b most = 0) : erF (b ++ m) most = 0 ∧ nF (b ++ m) = nF b ∧ chF (b ++ m) = chF b ∧ bodyF (b ++ m) = bodyF b := by
  obtain ⟨e1, e2, e3, e4, e5, e6⟩ := erF_ok h
  have hl : (b ++ m).length = b.length + m.length := List.length_append
  have t4 : (b ++ m).take 4 = b.take 4 := List.take_append_of_le_length (by omega)
  have g4 : (b ++ m).getD 4 0 = b.getD 4 0 := getD_app (by omega)
  have g5 : (b ++ m).getD 5 0 = b.getD 5 0 := getD_app (by omega)
  have en : nb (b.take 4) = nF b := rfl
  have hn : nF (b ++ m) = nF b := by unfold nF; rw [t4]
  refine ⟨?_, hn, ?_, ?_⟩
  · unfold erF
    rw [hl, t4, g4, g5, en, if_neg (by omega), if_neg (by omega), if_neg (by omega), if_neg (by omega), if_neg (by omega), if_neg (by omega), if_neg (by omega)]
  · unfold chF
    rw [List.drop_append_of_le_length (by omega), List.take_append_of_le_length (by rw [List.length_drop]; omega)]
  · unfold bodyF
    rw [hn, g4, List.drop_append_of_le_length (by omega), List.take_append_of_le_length (by rw [List.length_drop]; omega)]
theorem bodyF_len {b : List Nat} {most : Nat} (h : erF b most = 0) : (bodyF b).length = nF b - 4 * b.getD 4 0 := by
  obtain ⟨e1, e2, e3, e4, e5, e6⟩ := erF_ok h
  unfold bodyF
  rw [List.length_take, List.length_drop]
  omega
theorem erF_cases (b : List Nat) (most : Nat) : erF b most = 0 ∨ erF b most = 6 ∨ erF b most = 7 := by
  unfold erF
  (repeat' split) <;> simp
/-- What is wrong stays so. -/
theorem erF_form {b : List Nat} {most : Nat} (m : List Nat) (h : erF b most = 6) : erF (b ++ m) most = 6 := by
  have hl : (b ++ m).length = b.length + m.length := List.length_append
  unfold erF at h ⊢
  by_cases l4 : b.length < 4
  · rw [if_pos l4] at h; omega
  have t4 : (b ++ m).take 4 = b.take 4 := List.take_append_of_le_length (by omega)
  rw [if_neg l4] at h
  rw [if_neg (by omega), t4]
  by_cases s8 : nb (b.take 4) < 8 ∨ most < nb (b.take 4)
  · rw [if_pos s8]
  rw [if_neg s8] at h ⊢
  by_cases l5 : b.length < 5
  · rw [if_pos l5] at h; omega
  rw [if_neg l5] at h
  rw [if_neg (by omega), getD_app (by omega)]
  by_cases p8 : b.getD 4 0 < 2 ∨ nb (b.take 4) < 4 * b.getD 4 0
  · rw [if_pos p8]
  rw [if_neg p8] at h ⊢
  by_cases l6 : b.length < 6
  · rw [if_pos l6] at h; omega
  rw [if_neg l6] at h
  rw [if_neg (by omega), getD_app (by omega)]
  by_cases t0 : b.getD 5 0 ≠ 0
  · rw [if_pos t0]
  rw [if_neg t0] at h
  by_cases ls : b.length < nb (b.take 4)
  · rw [if_pos ls] at h; omega
  · rw [if_neg ls] at h; omega
/-- What is short is a frame only with more than it. -/
theorem erF_short {b : List Nat} {most : Nat} (m : List Nat) (h : erF b most = 7) (h2 : erF (b ++ m) most = 0) : b.length < nF (b ++ m) := by
  obtain ⟨e1, e2, e3, e4, e5, e6⟩ := erF_ok h2
  rcases Nat.lt_or_ge b.length (nF (b ++ m)) with hlt | hge
  · exact hlt
  · exfalso
    have t4 : (b ++ m).take 4 = b.take 4 := List.take_append_of_le_length (by omega)
    have g4 : (b ++ m).getD 4 0 = b.getD 4 0 := getD_app (by omega)
    have g5 : (b ++ m).getD 5 0 = b.getD 5 0 := getD_app (by omega)
    have en : nb (b.take 4) = nF (b ++ m) := by unfold nF; rw [t4]
    unfold erF at h
    rw [← g4, ← g5, en, if_neg (by omega), if_neg (by omega), if_neg (by omega), if_neg (by omega), if_neg (by omega), if_neg (by omega), if_neg (by omega)] at h
    omega
end Go.Proofs.Ytdjncacknmejoaa.Fr
