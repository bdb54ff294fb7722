/-
  What is asked of a head, plain: the first answer that is an error is the one that Read tells. No Go in it.
-/
import Derived.Test.YtdjncacknmejoaaFra
namespace Go.Proofs.Ytdjncacknmejoaa.Fr
set_option maxRecDepth 100000
open Go.Proofs.Ytdjncacknmejoaa.Utf Go.Proofs.Ytdjncacknmejoaa.Enc

/-- The head that Read copies. -/
def hd8 (b : List Nat) : List Nat := splice (List.replicate 8 0) 0 (b.take 8)
theorem hd8_eq (b : List Nat) : hd8 b = b.take 8 ++ List.replicate (8 - (b.take 8).length) 0 := by
  unfold hd8 splice
  simp only [List.take_zero, List.nil_append, Nat.zero_add, List.drop_replicate]
theorem hd8_len (b : List Nat) : (hd8 b).length = 8 := by
  rw [hd8_eq]
  simp
  omega
theorem hd8_lt {b : List Nat} (h : ∀ x ∈ b, x < 256) : ∀ x ∈ hd8 b, x < 256 := by
  intro x hx
  rw [hd8_eq] at hx
  rcases List.mem_append.1 hx with hx | hx
  · exact h x (List.mem_of_mem_take hx)
  · rw [List.eq_of_mem_replicate hx]; omega
theorem hd8_8 {b : List Nat} (h : ∀ x ∈ b, x < 256) : Hd8 (hd8 b) := ⟨hd8_len b, hd8_lt h⟩
theorem hd8_take (b : List Nat) (k : Nat) (hk : k ≤ 8) (hl : k ≤ b.length) : (hd8 b).take k = b.take k := by
  rw [hd8_eq, List.take_append_of_le_length (by rw [List.length_take]; omega), List.take_take, Nat.min_eq_left hk]
theorem hd8_at (b : List Nat) (k : Nat) (hk : k < 8) (hl : k < b.length) : (hd8 b)[k]? = some (b.getD k 0) := by
  rw [hd8_eq, List.getElem?_append_left (by rw [List.length_take]; omega), List.getElem?_take, if_pos hk, List.getElem?_eq_getElem hl]
  simp [hl]
theorem hd8_drop (b : List Nat) (hl : 8 ≤ b.length) : ((hd8 b).drop 6).take 2 = (b.drop 6).take 2 := by
  have : hd8 b = b.take 8 := by
    rw [hd8_eq, List.length_take, Nat.min_eq_left hl]
    simp
  rw [this, List.drop_take, List.take_take]
  rfl
theorem list8 {α : Type} (l : List α) (h : l.length = 8) : ∃ a0 a1 a2 a3 a4 a5 a6 a7, l = [a0, a1, a2, a3, a4, a5, a6, a7] := by
  match l, h with
  | [a0, a1, a2, a3, a4, a5, a6, a7], _ => exact ⟨a0, a1, a2, a3, a4, a5, a6, a7, rfl⟩

/-- The first that is not 0. -/
def fnz : List Int → Int
  | [] => 0
  | q :: l => if q = 0 then fnz l else q
theorem fnz_at : ∀ {l : List Int} {j : Nat} {q : Int}, (∀ k x, k < j → l[k]? = some x → x = 0) → l[j]? = some q → q ≠ 0 → fnz l = q
  | [], _, _, _, h, _ => by simp at h
  | x :: l, 0, q, _, h, hq => by
    simp at h
    subst h
    unfold fnz
    rw [if_neg hq]
  | x :: l, j + 1, q, h0, h, hq => by
    unfold fnz
    rw [if_pos (h0 0 x (by omega) (by simp))]
    exact fnz_at (j := j) (fun k y hk hy => h0 (k + 1) y (by omega) (by simpa using hy)) (by simpa using h) hq
theorem fnz_all : ∀ {l : List Int}, (∀ k x, k < l.length → l[k]? = some x → x = 0) → fnz l = 0
  | [], _ => rfl
  | x :: l, h => by
    unfold fnz
    rw [if_pos (h 0 x (by simp) (by simp))]
    exact fnz_all fun k y hk hy => h (k + 1) y (by simp; omega) (by simpa using hy)
theorem errIf_pos {b : Bool} {q : Int} (h : b = true) : errIf b q = 0 := by subst h; rfl
theorem errIf_neg {b : Bool} {q : Int} (h : b = false) : errIf b q = q := by subst h; rfl
theorem fnz_ok {b : Bool} {q : Int} {l : List Int} (h : b = true) : fnz (errIf b q :: l) = fnz l := by rw [errIf_pos h]; simp [fnz]
theorem fnz_err {b : Bool} {q : Int} {l : List Int} (h : b = false) (hq : q ≠ 0) : fnz (errIf b q :: l) = q := by rw [errIf_neg h]; simp [fnz, hq]
theorem ask_first {b : List Nat} {h0 h1 h2 h3 h4 h5 h6 h7 : Nat} (hh : hd8 b = [h0, h1, h2, h3, h4, h5, h6, h7]) (most : Nat) : fnz (qsF (nb [h0, h1, h2, h3]) (4 * h4) h5 b.length most) = (erF b most : Int) := by
  unfold qsF erF
  by_cases l4 : b.length < 4
  · rw [if_pos l4, fnz_err (by simp; omega) (by omega)]; rfl
  have e4 : [h0, h1, h2, h3] = b.take 4 := by
    have := hd8_take b 4 (by omega) (by omega)
    rw [hh] at this
    exact this
  rw [if_neg l4, fnz_ok (by simp; omega), e4]
  by_cases s8 : nb (b.take 4) < 8 ∨ most < nb (b.take 4)
  · rw [if_pos s8, fnz_err (by simp; omega) (by omega)]; rfl
  rw [if_neg s8, fnz_ok (by simp; omega)]
  by_cases l5 : b.length < 5
  · rw [if_pos l5, fnz_err (by simp; omega) (by omega)]; rfl
  have a4 : h4 = b.getD 4 0 := by
    have := hd8_at b 4 (by omega) (by omega)
    rw [hh] at this
    simpa using this
  rw [if_neg l5, fnz_ok (by simp; omega), ← a4]
  by_cases p8 : h4 < 2 ∨ nb (b.take 4) < 4 * h4
  · rw [if_pos p8, fnz_err (by simp; omega) (by omega)]; rfl
  rw [if_neg p8, fnz_ok (by simp; omega)]
  by_cases l6 : b.length < 6
  · rw [if_pos l6, fnz_err (by simp; omega) (by omega)]; rfl
  have a5 : h5 = b.getD 5 0 := by
    have := hd8_at b 5 (by omega) (by omega)
    rw [hh] at this
    simpa using this
  rw [if_neg l6, fnz_ok (by simp; omega), ← a5]
  by_cases t0 : h5 = 0
  · rw [if_neg (by omega), fnz_ok (by simp [t0])]
    by_cases ls : b.length < nb (b.take 4)
    · rw [if_pos ls, fnz_err (by simp; omega) (by omega)]; rfl
    · rw [if_neg ls, fnz_ok (by simp; omega)]; rfl
  · rw [if_pos t0, fnz_err (by simp [t0]) (by omega)]; rfl
/-- Where there is no error. -/
theorem erF_ok {b : List Nat} {most : Nat} (h : erF b most = 0) : 8 ≤ nF b ∧ nF b ≤ most ∧ nF b ≤ b.length ∧ 8 ≤ 4 * b.getD 4 0 ∧ 4 * b.getD 4 0 ≤ nF b ∧ b.getD 5 0 = 0 := by
  unfold erF at h
  unfold nF
  by_cases l4 : b.length < 4
  · rw [if_pos l4] at h; omega
  rw [if_neg l4] at h
  by_cases s8 : nb (b.take 4) < 8 ∨ most < nb (b.take 4)
  · rw [if_pos s8] at h; omega
  rw [if_neg s8] at h
  by_cases l5 : b.length < 5
  · rw [if_pos l5] at h; omega
  rw [if_neg l5] at h
  by_cases p8 : b.getD 4 0 < 2 ∨ nb (b.take 4) < 4 * b.getD 4 0
  · rw [if_pos p8] at h; omega
  rw [if_neg p8] at h
  by_cases l6 : b.length < 6
  · rw [if_pos l6] at h; omega
  rw [if_neg l6] at h
  by_cases t0 : b.getD 5 0 ≠ 0
  · rw [if_pos t0] at h; omega
  rw [if_neg t0] at h
  by_cases ls : b.length < nb (b.take 4)
  · rw [if_pos ls] at h; omega
  omega
end Go.Proofs.Ytdjncacknmejoaa.Fr
