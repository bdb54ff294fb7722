/-
  Values one behind the other, and a list's or map's bytes with a size and a count of four bytes. No Go in it.
-/
import Derived.Test.YtikjnbognjicdaaDoorBak6W
namespace Go.Proofs.YtikjnbognjicdaaDoor.Dec
set_option maxRecDepth 100000
open Go.Proofs.YtikjnbognjicdaaDoor.Val V Go.Proofs.YtikjnbognjicdaaDoor.Utf Go.Proofs.YtikjnbognjicdaaDoor.Enc

/- With fewer parts ahead of it it is told as well. -/
theorem loop_shift {s s' : Nat → List Nat → Option (V × Nat × List Nat)} {k : Nat} (h : ∀ it l v it' r, s (it + k) l = some (v, it', r) → k ≤ it' ∧ s' it l = some (v, it' - k, r)) : ∀ (n it : Nat) (l : List Nat) (vs : List V) (it' : Nat) (r : List Nat), loopN s n (it + k) l = some (vs, it', r) → k ≤ it' ∧ loopN s' n it l = some (vs, it' - k, r)
  | 0, it, l, vs, it', r, hs => by
    simp only [loopN, Option.some.injEq, Prod.mk.injEq] at hs ⊢
    obtain ⟨rfl, rfl, rfl⟩ := hs
    exact ⟨by omega, rfl, by omega, rfl⟩
  | n + 1, it, l, vs, it', r, hs => by
    rw [loopN] at hs ⊢
    cases h1 : s (it + k) l with
    | none => rw [h1] at hs; cases hs
    | some p =>
      obtain ⟨v, it1, r1⟩ := p
      obtain ⟨h2, h3⟩ := h _ _ _ _ _ h1
      rw [h1] at hs
      rw [h3]
      simp only at hs ⊢
      cases h4 : loopN s n it1 r1 with
      | none => rw [h4] at hs; cases hs
      | some q =>
        obtain ⟨vs2, it2, r2⟩ := q
        obtain ⟨h5, h6⟩ := loop_shift h n (it1 - k) r1 vs2 it2 r2 (by rw [Nat.sub_add_cancel h2]; exact h4)
        rw [h4] at hs
        rw [h6]
        simp only [Option.some.injEq, Prod.mk.injEq] at hs ⊢
        obtain ⟨rfl, rfl, rfl⟩ := hs
        exact ⟨h5, rfl, rfl, rfl⟩
theorem stepV_shift {tl : Nat → List V → Nat → List Nat → Option (V × Nat)} {k : Nat} (h : ∀ it ns c d v it', tl (it + k) ns c d = some (v, it') → k ≤ it' ∧ tl it ns c d = some (v, it' - k)) (it : Nat) (l : List Nat) (v : V) (it' : Nat) (r : List Nat) (hs : stepV tl (it + k) l = some (v, it', r)) : k ≤ it' ∧ stepV tl it l = some (v, it' - k, r) := by
  unfold stepV at hs ⊢
  cases hh : headD l with
  | error s => rw [hh] at hs; cases hs
  | ok p =>
    obtain ⟨ns, c, r1⟩ := p
    rw [hh] at hs
    simp only at hs ⊢
    cases hd : dataD c r1 with
    | none => rw [hd] at hs; cases hs
    | some q =>
      obtain ⟨d, r2⟩ := q
      rw [hd] at hs
      simp only at hs ⊢
      cases ht : tl (it + k) (ns.take 16) c d with
      | none => rw [ht] at hs; cases hs
      | some q =>
        obtain ⟨v2, it2⟩ := q
        obtain ⟨h1, h2⟩ := h _ _ _ _ _ _ ht
        rw [ht] at hs
        rw [h2]
        simp only [Option.some.injEq, Prod.mk.injEq] at hs ⊢
        obtain ⟨rfl, rfl, rfl⟩ := hs
        exact ⟨h1, rfl, rfl, rfl⟩
theorem stepA_shift {tl : Nat → List V → Nat → List Nat → Option (V × Nat)} {k : Nat} (h : ∀ it ns c d v it', tl (it + k) ns c d = some (v, it') → k ≤ it' ∧ tl it ns c d = some (v, it' - k)) (ns : List V) (c it : Nat) (l : List Nat) (v : V) (it' : Nat) (r : List Nat) (hs : stepA tl ns c (it + k) l = some (v, it', r)) : k ≤ it' ∧ stepA tl ns c it l = some (v, it' - k, r) := by
  unfold stepA at hs ⊢
  cases hd : dataD c l with
  | none => rw [hd] at hs; cases hs
  | some q =>
    obtain ⟨d, r2⟩ := q
    rw [hd] at hs
    simp only at hs ⊢
    cases ht : tl (it + k) ns c d with
    | none => rw [ht] at hs; cases hs
    | some q =>
      obtain ⟨v2, it2⟩ := q
      obtain ⟨h1, h2⟩ := h _ _ _ _ _ _ ht
      rw [ht] at hs
      rw [h2]
      simp only [Option.some.injEq, Prod.mk.injEq] at hs ⊢
      obtain ⟨rfl, rfl, rfl⟩ := hs
      exact ⟨h1, rfl, rfl, rfl⟩
theorem endL_shift {R R' : Option (List V × Nat × List Nat)} {k : Nat} (h : ∀ vs it' r, R = some (vs, it', r) → k ≤ it' ∧ R' = some (vs, it' - k, r)) {vs : List V} {it' : Nat} (he : endL R = some (vs, it')) : k ≤ it' ∧ endL R' = some (vs, it' - k) := by
  obtain ⟨h1, h2⟩ := h _ _ _ (endL_some he)
  exact ⟨h1, by rw [h2]; rfl⟩
theorem told_shift (k : Nat) : ∀ (F it : Nat) (ns : List V) (c : Nat) (d : List Nat) (v : V) (it' : Nat), toldN F (it + k) ns c d = some (v, it') → k ≤ it' ∧ toldN F it ns c d = some (v, it' - k)
  | 0, _, _, _, _, _, _, h => by simp [toldN] at h
  | F + 1, it, ns, c, d, v, it', h => by
    have ih := told_shift k F
    rw [told_succ] at h ⊢
    by_cases hm : 1024 < it + k + 1 + 2 * ns.length
    · rw [if_pos hm] at h; cases h
    rw [if_neg hm] at h
    rw [if_neg (by omega)]
    unfold aloneD at h ⊢
    by_cases hk : kof c < 22
    · rw [if_pos hk] at h ⊢
      simp only [Option.some.injEq, Prod.mk.injEq] at h ⊢
      obtain ⟨rfl, rfl⟩ := h
      exact ⟨by omega, rfl, by omega⟩
    · rw [if_neg hk] at h ⊢
      have e : it + k + 1 + 2 * ns.length = (it + 1 + 2 * ns.length) + k := by omega
      rw [e] at h
      cases hK : kidsD (toldN F) c (it + 1 + 2 * ns.length + k) d with
      | none => rw [hK] at h; cases h
      | some p =>
        obtain ⟨vs, it2⟩ := p
        rw [hK] at h
        simp only [Option.some.injEq, Prod.mk.injEq] at h
        obtain ⟨rfl, rfl⟩ := h
        have hres : k ≤ it2 ∧ kidsD (toldN F) c (it + 1 + 2 * ns.length) d = some (vs, it2 - k) := by
          unfold kidsD at hK ⊢
          by_cases h0 : d.length < sw c
          · rw [if_pos h0] at hK; cases hK
          rw [if_neg h0] at hK ⊢
          by_cases h1 : 1024 < tn (d.take (sw c))
          · rw [if_pos h1] at hK; cases hK
          rw [if_neg h1] at hK ⊢
          by_cases h24 : kof c = 24
          · rw [if_pos h24] at hK ⊢
            cases hH : headD (d.drop (sw c)) with
            | error s => rw [hH] at hK; cases hK
            | ok p =>
              obtain ⟨ns', c', r⟩ := p
              rw [hH] at hK
              exact endL_shift (fun vs it' r => loop_shift (s := stepA (toldN F) (ns'.take 16) c') (s' := stepA (toldN F) (ns'.take 16) c') (fun it l v it' r => stepA_shift ih _ _ it l v it' r) _ _ _ vs it' r) hK
          · rw [if_neg h24] at hK ⊢
            exact endL_shift (fun vs it' r => loop_shift (s := stepV (toldN F)) (s' := stepV (toldN F)) (fun it l v it' r => stepV_shift ih it l v it' r) _ _ _ vs it' r) hK
        rw [hres.2]
        exact ⟨hres.1, rfl⟩
/- There are never too many. -/
theorem loop_few {s : Nat → List Nat → Option (V × Nat × List Nat)} (h : ∀ it l v it' r, s it l = some (v, it', r) → it' ≤ 1024) : ∀ (n it : Nat) (l : List Nat) (vs : List V) (it' : Nat) (r : List Nat), it ≤ 1024 → loopN s n it l = some (vs, it', r) → it' ≤ 1024
  | 0, it, l, vs, it', r, hi, hs => by
    simp only [loopN, Option.some.injEq, Prod.mk.injEq] at hs
    omega
  | n + 1, it, l, vs, it', r, hi, hs => by
    rw [loopN] at hs
    cases h1 : s it l with
    | none => rw [h1] at hs; cases hs
    | some p =>
      obtain ⟨v, it1, r1⟩ := p
      rw [h1] at hs
      simp only at hs
      cases h4 : loopN s n it1 r1 with
      | none => rw [h4] at hs; cases hs
      | some q =>
        obtain ⟨vs2, it2, r2⟩ := q
        rw [h4] at hs
        simp only [Option.some.injEq, Prod.mk.injEq] at hs
        have := loop_few h n it1 r1 vs2 it2 r2 (h _ _ _ _ _ h1) h4
        omega
theorem told_few : ∀ (F it : Nat) (ns : List V) (c : Nat) (d : List Nat) (v : V) (it' : Nat), toldN F it ns c d = some (v, it') → it' ≤ 1024
  | 0, _, _, _, _, _, _, h => by simp [toldN] at h
  | F + 1, it, ns, c, d, v, it', h => by
    rw [told_succ] at h
    by_cases hm : 1024 < it + 1 + 2 * ns.length
    · rw [if_pos hm] at h; cases h
    rw [if_neg hm] at h
    unfold aloneD at h
    by_cases hk : kof c < 22
    · rw [if_pos hk] at h
      simp only [Option.some.injEq, Prod.mk.injEq] at h
      omega
    · rw [if_neg hk] at h
      cases hK : kidsD (toldN F) c (it + 1 + 2 * ns.length) d with
      | none => rw [hK] at h; cases h
      | some p =>
        obtain ⟨vs, it2⟩ := p
        rw [hK] at h
        simp only [Option.some.injEq, Prod.mk.injEq] at h
        have hV : ∀ it l v it' r, stepV (toldN F) it l = some (v, it', r) → it' ≤ 1024 := fun it l v it' r hs => by
          unfold stepV at hs
          cases hh : headD l with
          | error s => rw [hh] at hs; cases hs
          | ok p =>
            obtain ⟨ns, c, r1⟩ := p
            rw [hh] at hs
            simp only at hs
            cases hd : dataD c r1 with
            | none => rw [hd] at hs; cases hs
            | some q =>
              obtain ⟨d, r2⟩ := q
              rw [hd] at hs
              simp only at hs
              cases ht : toldN F it (ns.take 16) c d with
              | none => rw [ht] at hs; cases hs
              | some q =>
                obtain ⟨v2, it2⟩ := q
                have := told_few F _ _ _ _ _ _ ht
                rw [ht] at hs
                simp only [Option.some.injEq, Prod.mk.injEq] at hs
                omega
        have hA : ∀ ns c it l v it' r, stepA (toldN F) ns c it l = some (v, it', r) → it' ≤ 1024 := fun ns c it l v it' r hs => by
          unfold stepA at hs
          cases hd : dataD c l with
          | none => rw [hd] at hs; cases hs
          | some q =>
            obtain ⟨d, r2⟩ := q
            rw [hd] at hs
            simp only at hs
            cases ht : toldN F it ns c d with
            | none => rw [ht] at hs; cases hs
            | some q =>
              obtain ⟨v2, it2⟩ := q
              have := told_few F _ _ _ _ _ _ ht
              rw [ht] at hs
              simp only [Option.some.injEq, Prod.mk.injEq] at hs
              omega
        obtain ⟨_, _, hcase⟩ := kids_some hK
        have : it2 ≤ 1024 := by
          rcases hcase with ⟨_, ns', c', r, hH, hl⟩ | ⟨_, hl⟩
          · exact loop_few (fun it l v it' r => hA _ _ it l v it' r) _ _ _ _ _ _ (by omega) hl
          · exact loop_few hV _ _ _ _ _ _ (by omega) hl
        omega
theorem stepV_few {F it it' : Nat} {l r : List Nat} {v : V} (hs : stepV (toldN F) it l = some (v, it', r)) : it' ≤ 1024 := by
  unfold stepV at hs
  cases hh : headD l with
  | error s => rw [hh] at hs; cases hs
  | ok p =>
    obtain ⟨ns, c, r1⟩ := p
    rw [hh] at hs
    simp only at hs
    cases hd : dataD c r1 with
    | none => rw [hd] at hs; cases hs
    | some q =>
      obtain ⟨d, r2⟩ := q
      rw [hd] at hs
      simp only at hs
      cases ht : toldN F it (ns.take 16) c d with
      | none => rw [ht] at hs; cases hs
      | some q =>
        obtain ⟨v2, it2⟩ := q
        have := told_few F _ _ _ _ _ _ ht
        rw [ht] at hs
        simp only [Option.some.injEq, Prod.mk.injEq] at hs
        omega

/-- A value that may be. -/
def Fine1 (v : V) : Prop := Enc.Good v ∧ okB v = true
theorem step_lay {v : V} (hf : Fine1 v) (X : List Nat) {F it : Nat} (hF : (lay (plan v)).length ≤ F) : stepV (toldN F) it (lay (plan v) ++ X) = if it + items v ≤ 1024 then some (v, it + items v, X) else none := by
  obtain ⟨hg, hok⟩ := hf
  unfold okB at hok
  simp only [Bool.and_eq_true, decide_eq_true_eq] at hok
  have hb := (back_all (bulk v)).1 v X F
  by_cases hi : it + items v ≤ 1024
  · rw [if_pos hi, step_val, hb it (Nat.le_refl _) hg hok.1.2 hF hi]
  · rw [if_neg hi]
    cases hs : stepV (toldN F) it (lay (plan v) ++ X) with
    | none => rfl
    | some p =>
      exfalso
      obtain ⟨v', it', r⟩ := p
      have h0 := hb 0 (Nat.le_refl _) hg hok.1.2 hF (by omega)
      have h1 := stepV_shift (tl := toldN F) (k := it) (fun it' ns c d v it2 => told_shift it F it' ns c d v it2) 0 _ v' it' r (by rw [Nat.zero_add]; exact hs)
      rw [step_val, h0] at h1
      simp only [Option.some.injEq, Prod.mk.injEq] at h1
      have h2 := stepV_few hs
      omega
/-- Values that may be, one behind the other, and what stands behind them. -/
theorem loop_lays {F : Nat} (m : Nat) (X : List Nat) : ∀ (l : List V) (it : Nat), (∀ v ∈ l, Fine1 v) → (layK (planL l)).length ≤ F → it ≤ 1024 → loopN (stepV (toldN F)) (l.length + m) it (layK (planL l) ++ X) = if it + itemsL l ≤ 1024 then preL l (loopN (stepV (toldN F)) m (it + itemsL l) X) else none
  | [], it, _, _, hit => by
    simp only [List.length_nil, Nat.zero_add, planL, layK, List.nil_append, itemsL, Nat.add_zero, preL_nil]
    rw [if_pos hit]
  | v :: l, it, hf, hF, hit => by
    simp only [planL, layK, List.length_append] at hF
    have hil : itemsL (v :: l) = items v + itemsL l := by simp only [itemsL]
    have e : (v :: l).length + m = (l.length + m) + 1 := by simp only [List.length_cons]; omega
    simp only [planL, layK, List.append_assoc]
    rw [e, loopN, step_lay (hf v (by simp)) _ (by omega)]
    by_cases hi : it + items v ≤ 1024
    · rw [if_pos hi]
      simp only
      rw [loop_lays m X l (it + items v) (fun x hx => hf x (by simp [hx])) (by omega) hi]
      by_cases h2 : it + items v + itemsL l ≤ 1024
      · have h3 : it + itemsL (v :: l) ≤ 1024 := by omega
        rw [if_pos h2, if_pos h3, show it + itemsL (v :: l) = it + items v + itemsL l by omega]
        cases loopN (stepV (toldN F)) m (it + items v + itemsL l) X with
        | none => rfl
        | some p => rfl
      · have h3 : ¬ it + itemsL (v :: l) ≤ 1024 := by omega
        rw [if_neg h2, if_neg h3]
    · have h3 : ¬ it + itemsL (v :: l) ≤ 1024 := by omega
      rw [if_neg hi, if_neg h3]

/-- A list's or map's bytes, with a size and a count of four bytes. -/
def hd4 (c size count : Nat) (K : List Nat) : List Nat := c :: (be size 4 ++ be count 4 ++ K)
theorem hd4_data {c size count : Nat} {K : List Nat} (hs : sw c = 4) (h1 : size < 4294967296) : dataD c (be size 4 ++ be count 4 ++ K) = if size ≤ K.length + 4 then some ((be count 4 ++ K).take size, (be count 4 ++ K).drop size) else none := by
  unfold dataD
  have hl := be_length size 4
  have hl2 := be_length count 4
  have ht : (be size 4 ++ be count 4 ++ K).take 4 = be size 4 := by rw [List.append_assoc, List.take_append_of_le_length (by omega), List.take_of_length_le (by omega)]
  have hd : (be size 4 ++ be count 4 ++ K).drop 4 = be count 4 ++ K := by rw [List.append_assoc, List.drop_append_of_le_length (by omega), List.drop_of_length_le (by omega), List.nil_append]
  rw [hs, if_neg (by omega), if_pos (by simp only [List.length_append]; omega), ht, hd, tn_be _ _ (by omega), Nat.mod_eq_of_lt h1]
  simp only [List.length_append, hl2]
  rw [show 4 + K.length = K.length + 4 by omega]
theorem wide_kids {tl : Nat → List V → Nat → List Nat → Option (V × Nat)} {c it n : Nat} {L : List Nat} (hs : sw c = 4) (hk : kof c ≠ 24) (hn : n < 4294967296) : kidsD tl c it (be n 4 ++ L) = if 1024 < n then none else endL (loopN (stepV tl) n it L) := by
  have hbl := be_length n 4
  have ht : (be n 4 ++ L).take 4 = be n 4 := by rw [List.take_append_of_le_length (by omega), List.take_of_length_le (by omega)]
  have hd : (be n 4 ++ L).drop 4 = L := by rw [List.drop_append_of_le_length (by omega), List.drop_of_length_le (by omega), List.nil_append]
  unfold kidsD
  rw [hs, if_neg (by simp only [List.length_append]; omega), ht, hd, tn_be _ _ (by omega), Nat.mod_eq_of_lt hn, if_neg hk]
  rfl
/-- What is read of them: by what is told of their parts. -/
theorem wide_val {c size count : Nat} {K : List Nat} (hs : sw c = 4) (hk : kof c = 22 ∨ kof c = 23) (h1 : size < 4294967296) (h4 : 4 ≤ size) (hsz : size ≤ K.length + 4) (hc : count < 4294967296) :
    valD (toldN (hd4 c size count K).length) 0 (hd4 c size count K) = (match (if 1024 < count then none else endL (loopN (stepV (toldN (hd4 c size count K).length.pred)) count 1 (K.take (size - 4)))) with
      | none => .error false
      | some (vs, it') => .ok (.mk (kof c) 0 ⟨#[]⟩ vs, it', (be count 4 ++ K).drop size)) := by
  have h0 : c ≠ 0 := fun e => by subst e; simp [sw] at hs
  have hl2 := be_length count 4
  have hl1 := be_length size 4
  have hlen : (hd4 c size count K).length = K.length + 9 := by simp only [hd4, List.length_cons, List.length_append]; omega
  have htk : (be count 4 ++ K).take size = be count 4 ++ K.take (size - 4) := by rw [List.take_append, hl2, List.take_of_length_le (by omega)]
  have hR : toldN (hd4 c size count K).length 0 [] c (be count 4 ++ K.take (size - 4)) = (match (if 1024 < count then none else endL (loopN (stepV (toldN (hd4 c size count K).length.pred)) count 1 (K.take (size - 4)))) with
      | none => none
      | some (vs, it') => some (.mk (kof c) 0 ⟨#[]⟩ vs, it')) := by
    rw [hlen]
    rw [show K.length + 9 = (K.length + 8) + 1 by omega, told_succ, if_neg (by simp)]
    unfold aloneD
    rw [if_neg (by omega), wide_kids hs (by omega) hc]
    simp only [List.length_nil, Nat.mul_zero, Nat.add_zero, Nat.zero_add, calledV, Nat.pred_succ]
    cases (if 1024 < count then none else endL (loopN (stepV (toldN (K.length + 8))) count 1 (K.take (size - 4)))) with
    | none => rfl
    | some p => rfl
  unfold valD
  have hh : headD (hd4 c size count K) = .ok ([], c, be size 4 ++ be count 4 ++ K) := by
    unfold headD hd4
    rw [headN, if_neg h0, if_neg (by omega)]
  rw [hh]
  simp only
  rw [hd4_data hs h1, if_pos hsz, htk]
  simp only [List.take_nil]
  rw [hR]
  cases (if 1024 < count then none else endL (loopN (stepV (toldN (hd4 c size count K).length.pred)) count 1 (K.take (size - 4)))) with
  | none => rfl
  | some p => rfl

section
variable {l : List V} {c : Nat} (hf : ∀ v ∈ l, Fine1 v) (hs : sw c = 4) (hk : kof c = 22 ∨ kof c = 23) (hK : (layK (planL l)).length < 4294967280) (hl : l.length < 4294967000)
include hf hs hk hK hl
theorem wide_ok : valD (toldN (hd4 c ((layK (planL l)).length + 4) l.length (layK (planL l))).length) 0 (hd4 c ((layK (planL l)).length + 4) l.length (layK (planL l))) = if 1 + itemsL l ≤ 1024 then .ok (.mk (kof c) 0 ⟨#[]⟩ l, 1 + itemsL l, []) else .error false := by
  rw [wide_val hs hk (by omega) (by omega) (Nat.le_refl _) (by omega)]
  have hlen : (hd4 c ((layK (planL l)).length + 4) l.length (layK (planL l))).length.pred = (layK (planL l)).length + 8 := by simp only [hd4, List.length_cons, List.length_append, be_length, Nat.pred_succ]; omega
  have hll := length_le l
  have hloop := loop_lays (F := (layK (planL l)).length + 8) 0 [] l 1 hf (by omega) (by omega)
  simp only [Nat.add_zero, List.append_nil] at hloop
  rw [hlen, show (layK (planL l)).length + 4 - 4 = (layK (planL l)).length by omega, List.take_length, hloop]
  have hdrop : (be l.length 4 ++ layK (planL l)).drop ((layK (planL l)).length + 4) = [] := List.drop_of_length_le (by rw [List.length_append, be_length]; omega)
  rw [hdrop]
  by_cases hi : 1 + itemsL l ≤ 1024
  · rw [if_neg (by omega), if_pos hi, if_pos hi, loop_end]
    rfl
  · rw [if_neg hi, if_neg hi]
    by_cases h2 : 1024 < l.length
    · rw [if_pos h2]
    · rw [if_neg h2]; rfl
omit hf hl in
theorem wide_short : valD (toldN (hd4 c ((layK (planL l)).length + 5) l.length (layK (planL l))).length) 0 (hd4 c ((layK (planL l)).length + 5) l.length (layK (planL l))) = .error true := by
  have h0 : c ≠ 0 := fun e => by subst e; simp [sw] at hs
  unfold valD
  have hh : headD (hd4 c ((layK (planL l)).length + 5) l.length (layK (planL l))) = .ok ([], c, be ((layK (planL l)).length + 5) 4 ++ be l.length 4 ++ layK (planL l)) := by
    unfold headD hd4
    rw [headN, if_neg h0, if_neg (by omega)]
  rw [hh]
  simp only
  rw [hd4_data hs (by omega), if_neg (by omega)]
theorem wide_more (k : Nat) (hk1 : k < 256) : valD (toldN (hd4 c ((layK (planL l)).length + 4) (l.length + 1 + k) (layK (planL l))).length) 0 (hd4 c ((layK (planL l)).length + 4) (l.length + 1 + k) (layK (planL l))) = .error false := by
  rw [wide_val hs hk (by omega) (by omega) (Nat.le_refl _) (by omega)]
  have hloop := loop_lays (F := (hd4 c ((layK (planL l)).length + 4) (l.length + 1 + k) (layK (planL l))).length.pred) (1 + k) [] l 1 hf (by simp only [hd4, List.length_cons, List.length_append, be_length, Nat.pred_succ]; omega) (by omega)
  rw [List.append_nil] at hloop
  rw [show (layK (planL l)).length + 4 - 4 = (layK (planL l)).length by omega, List.take_length, show l.length + 1 + k = l.length + (1 + k) by omega]
  rw [show l.length + 1 + k = l.length + (1 + k) by omega] at hloop
  rw [hloop]
  have hnil : ∀ it, loopN (stepV (toldN (hd4 c ((layK (planL l)).length + 4) (l.length + (1 + k)) (layK (planL l))).length.pred)) (1 + k) it [] = none := fun it => by
    rw [Nat.add_comm 1 k, loopN]
    rfl
  rw [hnil]
  by_cases h2 : 1024 < l.length + (1 + k)
  · rw [if_pos h2]
  · rw [if_neg h2]
    by_cases hi : 1 + itemsL l ≤ 1024
    · rw [if_pos hi]; rfl
    · rw [if_neg hi]; rfl
end
theorem lay_snoc (l : List V) (v : V) : layK (planL (l ++ [v])) = layK (planL l) ++ lay (plan v) := by
  rw [planL_append, layK_append]
  simp [planL, layK]
section
variable {l : List V} {v : V} {c : Nat} (hf : ∀ x ∈ l ++ [v], Fine1 x) (hs : sw c = 4) (hk : kof c = 22 ∨ kof c = 23) (hK : (layK (planL (l ++ [v]))).length < 4294967280) (hl : (l ++ [v]).length < 4294967000)
include hf hs hk hK hl
theorem wide_less : valD (toldN (hd4 c ((layK (planL (l ++ [v]))).length + 4) l.length (layK (planL (l ++ [v])))).length) 0 (hd4 c ((layK (planL (l ++ [v]))).length + 4) l.length (layK (planL (l ++ [v])))) = .error false := by
  rw [List.length_append, List.length_singleton] at hl
  rw [wide_val hs hk (by omega) (by omega) (Nat.le_refl _) (by omega)]
  have hpos := lay_pos (hf v (by simp)).1.1
  have hsn := lay_snoc l v
  have hF : (layK (planL l)).length ≤ (hd4 c ((layK (planL (l ++ [v]))).length + 4) l.length (layK (planL (l ++ [v])))).length.pred := by
    have := congrArg List.length hsn
    rw [List.length_append] at this
    simp only [hd4, List.length_cons, List.length_append, be_length, Nat.pred_succ]; omega
  have hloop := loop_lays 0 (lay (plan v)) l 1 (fun x hx => hf x (by simp [hx])) hF (by omega)
  simp only [Nat.add_zero] at hloop
  rw [← hsn] at hloop
  rw [show (layK (planL (l ++ [v]))).length + 4 - 4 = (layK (planL (l ++ [v]))).length by omega, List.take_length, hloop, loop_end]
  have hend : ∀ it, endL (some (l, it, lay (plan v))) = none := fun it => by
    cases h : lay (plan v) with
    | nil => rw [h] at hpos; simp at hpos
    | cons y r => rfl
  by_cases h2 : 1024 < l.length
  · rw [if_pos h2]
  · rw [if_neg h2]
    by_cases hi : 1 + itemsL l ≤ 1024
    · rw [if_pos hi, hend]
    · rw [if_neg hi]; rfl
theorem wide_cut : valD (toldN (hd4 c ((layK (planL (l ++ [v]))).length + 3) (l ++ [v]).length (layK (planL (l ++ [v])))).length) 0 (hd4 c ((layK (planL (l ++ [v]))).length + 3) (l ++ [v]).length (layK (planL (l ++ [v])))) = .error false := by
  have hl0 := hl
  rw [List.length_append, List.length_singleton] at hl0
  have hfv := hf v (by simp)
  have hpos := lay_pos hfv.1.1
  have hsn := lay_snoc l v
  have hsl := congrArg List.length hsn
  rw [List.length_append] at hsl
  rw [wide_val hs hk (by omega) (by omega) (by omega) (by omega)]
  have htk : (layK (planL (l ++ [v]))).take ((layK (planL (l ++ [v]))).length + 3 - 4) = layK (planL l) ++ (lay (plan v)).take ((lay (plan v)).length - 1) := by
    rw [hsn, List.take_append, List.take_of_length_le (by rw [List.length_append]; omega)]
    congr 2
    rw [List.length_append]
    omega
  obtain ⟨F, hFe⟩ : ∃ F, (hd4 c ((layK (planL (l ++ [v]))).length + 3) (l ++ [v]).length (layK (planL (l ++ [v])))).length.pred = F := ⟨_, rfl⟩
  have hF : (layK (planL (l ++ [v]))).length ≤ F := by
    rw [← hFe]
    simp only [hd4, List.length_cons, List.length_append, be_length, Nat.pred_succ]; omega
  rw [hFe, htk, List.length_append, List.length_singleton, loop_lays 1 _ l 1 (fun x hx => hf x (by simp [hx])) (by omega) (by omega)]
  have hcut : ∀ it, stepV (toldN F) it ((lay (plan v)).take ((lay (plan v)).length - 1)) = none := fun it => by
    cases hst : stepV (toldN F) it ((lay (plan v)).take ((lay (plan v)).length - 1)) with
    | none => rfl
    | some p =>
      exfalso
      obtain ⟨v', it', r⟩ := p
      have h1 := (stepV_shift (tl := toldN F) (k := it) (fun it' ns c d v it2 => told_shift it F it' ns c d v it2) 0 _ v' it' r (by rw [Nat.zero_add]; exact hst)).2
      have h2 : stepV (toldN ((lay (plan v)).take ((lay (plan v)).length - 1)).length) 0 ((lay (plan v)).take ((lay (plan v)).length - 1)) = some (v', it' - it, r) := by
        rw [← h1]
        exact stepV_congr (M := ((lay (plan v)).take ((lay (plan v)).length - 1)).length) (fun it ns c d hd => told_fuel _ _ it ns c d (by omega) (by rw [List.length_take] at hd; omega)) _ _ (Nat.le_refl _)
      have h3 := own_cut (b := lay (plan v)) (v := v) (n := (lay (plan v)).length) (by have := dec_lay hfv.1 hfv.2 []; rwa [List.append_nil] at this) (j := (lay (plan v)).length - 1) (by omega)
      rw [step_val] at h2
      rcases dec_ways ((lay (plan v)).take ((lay (plan v)).length - 1)) with ⟨v2, it2, r2, hv2, hok2, hd2⟩ | ⟨_, hd2⟩ | ⟨hs2, _⟩
      · rw [hd2] at h3; simp at h3
      · rw [hd2] at h3; simp at h3
      · rw [hs2] at h2; cases h2
  have h1 : ∀ it, loopN (stepV (toldN F)) 1 it ((lay (plan v)).take ((lay (plan v)).length - 1)) = none := fun it => by rw [loopN, hcut]
  rw [h1]
  by_cases h2 : 1024 < l.length + 1
  · rw [if_pos h2]
  · rw [if_neg h2]
    by_cases hi : 1 + itemsL l ≤ 1024
    · rw [if_pos hi]; rfl
    · rw [if_neg hi]; rfl
end
/-- A text of kind 19, by four bytes of size. -/
theorem wide_text {s : ByteArray} (h : s.size ≤ 255) : decD ([176, 0, 0, 0, s.size] ++ tb s) = (.mk 19 0 s [], s.size + 5, 0) := by
  have hd : dataD 176 ([0, 0, 0, s.size] ++ tb s) = some (tb s, []) := by
    have := data_var (c := 176) (d := tb s) (X := []) (by decide) (by decide) (by rw [tb_length]; simp [sw]; omega)
    rw [tb_length, List.append_nil] at this
    have e : be s.size (sw 176) = [0, 0, 0, s.size] := by
      simp [be, sw]
      omega
    rwa [e] at this
  have hv : valD (toldN ([176, 0, 0, 0, s.size] ++ tb s).length) 0 ([176, 0, 0, 0, s.size] ++ tb s) = .ok (.mk 19 0 s [], 1, []) := by
    have hh : headD ([176, 0, 0, 0, s.size] ++ tb s) = .ok ([], 176, [0, 0, 0, s.size] ++ tb s) := rfl
    unfold valD
    rw [hh]
    simp only
    rw [hd]
    simp only [List.take_nil]
    have hp : plainV 176 (tb s) = .mk 19 0 s [] := by
      have : plainV 176 (tb s) = .mk 19 0 (sb (tb s)) [] := rfl
      rw [this, sb_tb]
    have ht : toldN ([176, 0, 0, 0, s.size] ++ tb s).length 0 [] 176 (tb s) = some (.mk 19 0 s [], 1) := by
      rw [show ([176, 0, 0, 0, s.size] ++ tb s).length = ((tb s).length + 4) + 1 by simp only [List.length_append, List.length_cons, List.length_nil]; omega, told_succ, if_neg (by simp)]
      unfold aloneD
      rw [if_pos (by decide), hp]
      rfl
    rw [ht]
  rw [dec_ok hv (by rw [ok_leaf _ _ _ (by decide)]; simp [aloneOk, textB])]
  simp only [Prod.mk.injEq, and_true, true_and, List.length_append, tb_length, List.length_cons, List.length_nil]
  omega
end Go.Proofs.YtikjnbognjicdaaDoor.Dec
