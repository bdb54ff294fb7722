/-
  What decode.Value answers by the first byte. No Go in it.
-/
import Derived.Test.YtikjnbognjicdaaDoorDcz
namespace Go.Proofs.YtikjnbognjicdaaDoor.Dec
set_option maxRecDepth 100000
open Go.Proofs.YtikjnbognjicdaaDoor.Val V Go.Proofs.YtikjnbognjicdaaDoor.Utf

theorem emp_yes : emptyB ⟨#[]⟩ = true := empty_yes
theorem ok_leaf (k n : Nat) (t : ByteArray) (h : k ≠ 23 ∧ k ≠ 24 ∧ k ≠ 25) : okB (.mk k n t []) = aloneOk k n t 0 := by
  simp [okB, items, itemsL, depth, depthL, mayB, mayL, kidsOk, h.1, h.2.1, h.2.2]
theorem ok_num (k n : Nat) (h : 2 ≤ k ∧ k ≤ 14) : okB (.mk k n ⟨#[]⟩ []) = numB k n := by
  rw [ok_leaf k n _ (by omega)]
  unfold aloneOk
  rw [if_neg (by omega), if_pos h, emp_yes]
  simp
theorem tn_lt256 {d : List Nat} (hd : ∀ x ∈ d, x < 256) {k : Nat} (hl : d.length = k) (hk : k ≤ 8) : tn d < 256 ^ k := by
  unfold tn
  rw [if_pos (by omega), ← hl]
  exact nb_lt d hd
theorem kinds_few : ∀ c < 160, kof c ≠ 0 → c ∈ [64, 65, 66, 67, 68, 69, 80, 81, 82, 83, 84, 85, 86, 96, 97, 112, 113, 114, 115, 116, 128, 129, 130, 131, 132, 148, 152] := by decide
theorem sg_1 (X : Nat) : sgB 128 (sgw X 1) = true := by
  unfold sgB sgw; simp; split <;> omega
theorem sg_1' (X : Nat) : sgB 2147483648 (sgw X 1) = true := by
  unfold sgB sgw; simp; split <;> omega
theorem sg_2 (X : Nat) : sgB 32768 (sgw X 2) = true := by
  unfold sgB sgw; simp; split <;> omega
theorem sg_4 (X : Nat) : sgB 2147483648 (sgw X 4) = true := by
  unfold sgB sgw; simp; split <;> omega
theorem plain_ok {c : Nat} {d : List Nat} (hd : ∀ x ∈ d, x < 256) (hl : d.length = lg c) (hk : kof c ≠ 0) (hc : c < 160) (h22 : c ≠ 69) : okB (plainV c d) = true ∨ (c = 86 ∧ 1 < tn d) ∨ c = 115 := by
  have hm := kinds_few c hc hk
  clear hc hk
  simp only [List.mem_cons, List.not_mem_nil, or_false] at hm
  rcases hm with rfl | rfl | rfl | rfl | rfl | rfl | rfl | rfl | rfl | rfl | rfl | rfl | rfl | rfl | rfl | rfl | rfl | rfl | rfl | rfl | rfl | rfl | rfl | rfl | rfl | rfl | rfl
  · exact .inl (by show okB (.mk 1 0 ⟨#[]⟩ []) = true; rw [ok_leaf _ _ _ (by decide)]; simp [aloneOk, emp_yes])
  · exact .inl (by show okB (.mk 2 1 ⟨#[]⟩ []) = true; rw [ok_num _ _ (by decide)]; rfl)
  · have h0 : d = [] := List.eq_nil_of_length_eq_zero hl
    subst h0
    exact .inl (by show okB (.mk 2 0 ⟨#[]⟩ []) = true; rw [ok_num _ _ (by decide)]; rfl)
  · have h0 : d = [] := List.eq_nil_of_length_eq_zero hl
    subst h0
    exact .inl (by show okB (.mk 5 0 ⟨#[]⟩ []) = true; rw [ok_num _ _ (by decide)]; rfl)
  · exact .inl (by show okB (.mk 6 (tn d) ⟨#[]⟩ []) = true; rw [ok_num _ _ (by decide)]; rfl)
  · exact absurd rfl h22
  · have h1 := tn_lt256 hd (k := 1) hl (by omega)
    exact .inl (by show okB (.mk 3 (tn d) ⟨#[]⟩ []) = true; rw [ok_num _ _ (by decide)]; simpa [numB] using h1)
  · exact .inl (by show okB (.mk 7 (sgw (tn d) d.length) ⟨#[]⟩ []) = true; rw [ok_num _ _ (by decide), hl]; exact sg_1 _)
  · have h1 := tn_lt256 hd (k := 1) hl (by omega)
    exact .inl (by show okB (.mk 5 (tn d) ⟨#[]⟩ []) = true; rw [ok_num _ _ (by decide)]; simp [numB]; omega)
  · exact .inl (by show okB (.mk 6 (tn d) ⟨#[]⟩ []) = true; rw [ok_num _ _ (by decide)]; rfl)
  · exact .inl (by show okB (.mk 9 (sgw (tn d) d.length) ⟨#[]⟩ []) = true; rw [ok_num _ _ (by decide), hl]; exact sg_1' _)
  · exact .inl (by show okB (.mk 10 (sgw (tn d) d.length) ⟨#[]⟩ []) = true; rw [ok_num _ _ (by decide)]; rfl)
  · by_cases h : 1 < tn d
    · exact .inr (.inl ⟨rfl, h⟩)
    · exact .inl (by show okB (.mk 2 (tn d) ⟨#[]⟩ []) = true; rw [ok_num _ _ (by decide)]; simp [numB]; omega)
  · have h1 := tn_lt256 hd (k := 2) hl (by omega)
    exact .inl (by show okB (.mk 4 (tn d) ⟨#[]⟩ []) = true; rw [ok_num _ _ (by decide)]; simpa [numB] using h1)
  · exact .inl (by show okB (.mk 8 (sgw (tn d) d.length) ⟨#[]⟩ []) = true; rw [ok_num _ _ (by decide), hl]; exact sg_2 _)
  · have h1 := tn_lt256 hd (k := 4) hl (by omega)
    exact .inl (by show okB (.mk 5 (tn d) ⟨#[]⟩ []) = true; rw [ok_num _ _ (by decide)]; simpa [numB] using h1)
  · exact .inl (by show okB (.mk 9 (sgw (tn d) d.length) ⟨#[]⟩ []) = true; rw [ok_num _ _ (by decide), hl]; exact sg_4 _)
  · have h1 := tn_lt256 hd (k := 4) hl (by omega)
    exact .inl (by show okB (.mk 11 (tn d) ⟨#[]⟩ []) = true; rw [ok_num _ _ (by decide)]; simpa [numB] using h1)
  · exact .inr (.inr rfl)
  · exact .inl (by show okB (.mk 16 0 (sb d) []) = true; rw [ok_leaf _ _ _ (by decide)]; have e := sb_size d; rw [show d.length = 4 from hl] at e; simp [aloneOk, textB, e])
  · exact .inl (by show okB (.mk 6 (tn d) ⟨#[]⟩ []) = true; rw [ok_num _ _ (by decide)]; rfl)
  · exact .inl (by show okB (.mk 10 (sgw (tn d) d.length) ⟨#[]⟩ []) = true; rw [ok_num _ _ (by decide)]; rfl)
  · exact .inl (by show okB (.mk 12 (tn d) ⟨#[]⟩ []) = true; rw [ok_num _ _ (by decide)]; rfl)
  · exact .inl (by show okB (.mk 14 (sgw (tn d) d.length) ⟨#[]⟩ []) = true; rw [ok_num _ _ (by decide)]; rfl)
  · exact .inl (by show okB (.mk 17 0 (sb d) []) = true; rw [ok_leaf _ _ _ (by decide)]; have e := sb_size d; rw [show d.length = 8 from hl] at e; simp [aloneOk, textB, e])
  · exact .inl (by show okB (.mk 18 0 (sb d) []) = true; rw [ok_leaf _ _ _ (by decide)]; have e := sb_size d; rw [show d.length = 16 from hl] at e; simp [aloneOk, textB, e])
  · exact .inl (by show okB (.mk 15 0 (sb d) []) = true; rw [ok_leaf _ _ _ (by decide)]; have e := sb_size d; rw [show d.length = 16 from hl] at e; simp [aloneOk, textB, e])

theorem dec_of_error {b : List Nat} {s : Bool} (h : valD (toldN b.length) 0 b = .error s) : decD b = (zeroV, 0, sel s 7) := by unfold decD; rw [h]
theorem dec_of_ok {b r : List Nat} {v : V} {it : Nat} (h : valD (toldN b.length) 0 b = .ok (v, it, r)) : decD b = if okB v = true then (v, b.length - r.length, 0) else (zeroV, 0, 6) := by unfold decD; rw [h]
theorem dec_none (c : Nat) (b : List Nat) (hc : c ≠ 0) (hk : kof c = 0) : decD (c :: b) = (zeroV, 0, 6) := by
  refine dec_of_error (s := false) ?_
  simp [valD, headD, headN, hc, hk]
theorem dec_empty (c : Nat) (h : c = 0 ∨ (kof c ≠ 0 ∧ sw c ≠ 0)) : decD [c] = (zeroV, 0, 7) := by
  refine dec_of_error (s := true) ?_
  rcases h with rfl | ⟨h1, h2⟩
  · simp [valD, headD, headN, nameD]
  · have h0 : c ≠ 0 := fun e => by subst e; exact h1 rfl
    have h3 : ¬ sw c ≤ 0 := by omega
    simp [valD, headD, headN, h0, h1, dataD, h2, h3]
theorem dec_short (c : Nat) (b : List Nat) (h1 : kof c ≠ 0) (h2 : sw c = 0) (h3 : b.length < lg c) : decD (c :: b) = (zeroV, 0, 7) := by
  refine dec_of_error (s := true) ?_
  have h0 : c ≠ 0 := fun e => by subst e; exact h1 rfl
  have h4 : ¬ lg c ≤ b.length := by omega
  simp [valD, headD, headN, h0, h1, dataD, h2, h4]
/-- What a code tells that has no size. -/
def codeV (c : Nat) (d : List Nat) : V := if c = 69 then .mk 22 0 ⟨#[]⟩ [] else plainV c d
theorem kof_low : ∀ c < 160, kof c ≠ 0 → c ≠ 69 → kof c < 22 := by decide
theorem sw_low : ∀ c < 160, sw c = 0 := by decide
theorem dec_code (c : Nat) (b : List Nat) (h1 : kof c ≠ 0) (hc : c < 160) (h3 : lg c ≤ b.length) : decD (c :: b) = if okB (codeV c (b.take (lg c))) = true then (codeV c (b.take (lg c)), 1 + lg c, 0) else (zeroV, 0, 6) := by
  have h0 : c ≠ 0 := fun e => by subst e; exact h1 rfl
  have h2 := sw_low c hc
  have hv : valD (toldN (c :: b).length) 0 (c :: b) = .ok (codeV c (b.take (lg c)), 1, b.drop (lg c)) := by
    have ht : toldN (b.length + 1) 0 [] c (b.take (lg c)) = some (codeV c (b.take (lg c)), 1) := by
      rw [told_succ, if_neg (by simp)]
      unfold aloneD codeV
      by_cases h69 : c = 69
      · subst h69
        simp [kof, kidsD, sw, lg, tn, nb, loopN, calledV]
      · rw [if_pos (kof_low c hc h1 h69), if_neg h69]
        rfl
    simp [valD, headD, headN, h0, h1, dataD, h2, h3, ht]
  rw [dec_of_ok hv]
  have e : (c :: b).length - (b.drop (lg c)).length = 1 + lg c := by simp only [List.length_cons, List.length_drop]; omega
  rw [e]
theorem code_ok {c : Nat} {d : List Nat} (hd : ∀ x ∈ d, x < 256) (hl : d.length = lg c) (hk : kof c ≠ 0) (hc : c < 160) : okB (codeV c d) = true ∨ (c = 86 ∧ 1 < tn d) ∨ c = 115 := by
  unfold codeV
  by_cases h69 : c = 69
  · rw [if_pos h69]
    exact .inl (by rw [ok_leaf _ _ _ (by decide)]; simp [aloneOk, emp_yes])
  · rw [if_neg h69]
    exact plain_ok hd hl hk hc h69

theorem dec_w1 : decD [112, 0, 0, 0, 5, 255] = (.mk 5 5 ⟨#[]⟩ [], 5, 0) := by
  rw [dec_code 112 [0, 0, 0, 5, 255] (by decide) (by decide) (by decide)]
  have e : codeV 112 ([0, 0, 0, 5, 255].take (lg 112)) = .mk 5 5 ⟨#[]⟩ [] := by rfl
  rw [e, ok_num _ _ (by decide), if_pos (by rfl)]
  rfl
theorem dec_w2 : decD [192, 4, 2, 65, 80] = (zeroV, 0, 7) := dec_of_error (s := true) (by rfl)
theorem dec_w3 : decD [86, 2] = (zeroV, 0, 6) := by
  rw [dec_code 86 [2] (by decide) (by decide) (by decide)]
  have e : codeV 86 ([2].take (lg 86)) = .mk 2 2 ⟨#[]⟩ [] := by rfl
  rw [e, ok_num _ _ (by decide), if_neg (by decide)]
end Go.Proofs.YtikjnbognjicdaaDoor.Dec
