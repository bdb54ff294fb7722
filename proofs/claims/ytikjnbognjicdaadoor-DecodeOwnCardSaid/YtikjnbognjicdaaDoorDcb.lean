/-
  How many parts there are in what is told, and how much. No Go in it.
-/
import Derived.Test.YtikjnbognjicdaaDoorDct
namespace Go.Proofs.YtikjnbognjicdaaDoor.Dec
open Go.Proofs.YtikjnbognjicdaaDoor.Val V Go.Proofs.YtikjnbognjicdaaDoor.Utf

theorem sb_size (d : List Nat) : (sb d).size = d.length := by simp [sb, ByteArray.size]
theorem plain_text (c : Nat) (d : List Nat) : (plainV c d).text.size ≤ d.length := by
  unfold plainV
  (repeat' split) <;> simp only [V.text] <;> first | exact Nat.zero_le _ | exact Nat.le_of_eq (sb_size d)
theorem name_txt {l r : List Nat} {v : V} (h : nameD l = .ok (v, r)) : v.kids = [] ∧ v.text.size ≤ l.length ∧ r.length ≤ l.length := by
  cases l with
  | nil => cases h
  | cons c l =>
    simp only [nameD] at h
    split at h
    · cases hd : dataD c l with
      | none => rw [hd] at h; cases h
      | some q =>
        obtain ⟨d, q⟩ := q
        rw [hd] at h
        simp only [Except.ok.injEq, Prod.mk.injEq] at h
        obtain ⟨rfl, rfl⟩ := h
        have h1 := data_len hd
        have h2 := plain_text c d
        exact ⟨plain_kids c d, by simp only [List.length_cons]; omega, by simp only [List.length_cons]; omega⟩
    · cases h
theorem head_txt : ∀ (N : Nat) (l : List Nat) (ns : List V) (c : Nat) (r : List Nat), headN N l = .ok (ns, c, r) → ∀ v ∈ ns, v.kids = [] ∧ v.text.size ≤ l.length
  | 0, _, _, _, _, h => by simp [headN] at h
  | _ + 1, [], _, _, _, h => by simp [headN] at h
  | N + 1, c :: l, ns, c', r, h => by
    rw [headN] at h
    by_cases hc : c = 0
    · rw [if_pos hc] at h
      cases hn : nameD l with
      | error s => rw [hn] at h; cases h
      | ok p =>
        obtain ⟨v, r1⟩ := p
        rw [hn] at h
        obtain ⟨f1, f2, f3⟩ := name_txt hn
        simp only at h
        cases h2 : headN N r1 with
        | error s => rw [h2] at h; cases h
        | ok p =>
          obtain ⟨ns2, c2, r2⟩ := p
          rw [h2] at h
          simp only [Except.ok.injEq, Prod.mk.injEq] at h
          obtain ⟨rfl, rfl, rfl⟩ := h
          intro x hx
          rcases List.mem_cons.1 hx with rfl | hx
          · exact ⟨f1, by simp only [List.length_cons]; omega⟩
          · have := head_txt N r1 _ _ _ h2 x hx
            exact ⟨this.1, by simp only [List.length_cons]; omega⟩
    · rw [if_neg hc] at h
      split at h
      · cases h
      · simp only [Except.ok.injEq, Prod.mk.injEq] at h
        obtain ⟨rfl, rfl, rfl⟩ := h
        intro v hv
        cases hv

/-- So many parts, each with at most M bytes of text. -/
def Fit (M it : Nat) (v : V) (it' : Nat) : Prop := items v + it = it' ∧ bulk v ≤ items v * (M + 1)
theorem leaf_fit {v : V} {M : Nat} (h : v.kids = []) (ht : v.text.size ≤ M) : items v = 1 ∧ bulk v ≤ M + 1 := by
  obtain ⟨k, n, t, ks⟩ := v
  simp only [V.kids] at h
  subst h
  simp only [V.text] at ht
  exact ⟨by simp [items, itemsL], by simp only [bulk, bulkL]; omega⟩
theorem called_fit {M : Nat} {v : V} : ∀ {ns : List V}, (∀ x ∈ ns, x.kids = [] ∧ x.text.size ≤ M) → bulk v ≤ items v * (M + 1) → items (calledV ns v) = items v + 2 * ns.length ∧ bulk (calledV ns v) ≤ items (calledV ns v) * (M + 1)
  | [], _, hb => ⟨rfl, hb⟩
  | x :: ns, h, hb => by
    obtain ⟨h1, h2⟩ := called_fit (ns := ns) (fun y hy => h y (by simp [hy])) hb
    obtain ⟨h3, h4⟩ := leaf_fit (h x (by simp)).1 (h x (by simp)).2
    have e : items (calledV (x :: ns) v) = items (calledV ns v) + 2 := by simp only [calledV, items, itemsL, h3]; omega
    refine ⟨by rw [e, h1]; simp only [List.length_cons]; omega, ?_⟩
    rw [e]
    simp only [calledV, bulk, bulkL]
    have h5 : (items (calledV ns v) + 2) * (M + 1) = items (calledV ns v) * (M + 1) + 2 * (M + 1) := Nat.add_mul _ _ _
    have h6 : (ByteArray.mk #[]).size = 0 := rfl
    omega
theorem loop_fit {step : Nat → List Nat → Option (V × Nat × List Nat)} {M : Nat} (hs : ∀ it l v it' r, l.length ≤ M → step it l = some (v, it', r) → Fit M it v it' ∧ r.length ≤ l.length) :
    ∀ (n it : Nat) (l : List Nat) (vs : List V) (it' : Nat) (r : List Nat), l.length ≤ M → loopN step n it l = some (vs, it', r) → itemsL vs + it = it' ∧ bulkL vs ≤ itemsL vs * (M + 1)
  | 0, it, l, vs, it', r, _, h => by
    simp only [loopN, Option.some.injEq, Prod.mk.injEq] at h
    obtain ⟨rfl, rfl, _⟩ := h
    exact ⟨by simp [itemsL], by simp [bulkL]⟩
  | n + 1, it, l, vs, it', r, hl, h => by
    rw [loopN] at h
    cases h1 : step it l with
    | none => rw [h1] at h; cases h
    | some p =>
      obtain ⟨v, it1, r1⟩ := p
      obtain ⟨⟨f1, f2⟩, f3⟩ := hs _ _ _ _ _ hl h1
      rw [h1] at h
      simp only at h
      cases h2 : loopN step n it1 r1 with
      | none => rw [h2] at h; cases h
      | some q =>
        obtain ⟨vs2, it2, r2⟩ := q
        rw [h2] at h
        simp only [Option.some.injEq, Prod.mk.injEq] at h
        obtain ⟨rfl, rfl, rfl⟩ := h
        obtain ⟨g1, g2⟩ := loop_fit hs n it1 r1 vs2 it2 r2 (by omega) h2
        refine ⟨by simp only [itemsL]; omega, ?_⟩
        simp only [itemsL, bulkL, Nat.add_mul]
        omega
theorem stepV_fit {tl : Nat → List V → Nat → List Nat → Option (V × Nat)} {M : Nat} (ht : ∀ it ns c d v it', (∀ x ∈ ns, x.kids = [] ∧ x.text.size ≤ M) → d.length ≤ M → tl it ns c d = some (v, it') → Fit M it v it')
    (it : Nat) (l : List Nat) (v : V) (it' : Nat) (r : List Nat) (hl : l.length ≤ M) (h : stepV tl it l = some (v, it', r)) : Fit M it v it' ∧ r.length ≤ l.length := by
  refine ⟨?_, stepV_len h⟩
  unfold stepV at h
  cases hh : headD l with
  | error s => rw [hh] at h; cases h
  | ok p =>
    obtain ⟨ns, c, r1⟩ := p
    have h1 := (headN_lt _ _ _ _ _ hh).1
    have h4 := head_txt _ _ _ _ _ hh
    rw [hh] at h
    simp only at h
    cases hd : dataD c r1 with
    | none => rw [hd] at h; cases h
    | some q =>
      obtain ⟨d, r2⟩ := q
      have h2 := data_len hd
      rw [hd] at h
      simp only at h
      cases h3 : tl it (ns.take 16) c d with
      | none => rw [h3] at h; cases h
      | some q =>
        obtain ⟨v2, it2⟩ := q
        rw [h3] at h
        simp only [Option.some.injEq, Prod.mk.injEq] at h
        obtain ⟨rfl, rfl, _⟩ := h
        exact ht _ _ _ _ _ _ (fun x hx => ⟨(h4 x (List.mem_of_mem_take hx)).1, Nat.le_trans (h4 x (List.mem_of_mem_take hx)).2 hl⟩) (by omega) h3
theorem stepA_fit {tl : Nat → List V → Nat → List Nat → Option (V × Nat)} {M : Nat} (ht : ∀ it ns c d v it', (∀ x ∈ ns, x.kids = [] ∧ x.text.size ≤ M) → d.length ≤ M → tl it ns c d = some (v, it') → Fit M it v it')
    {ns : List V} (hn : ∀ x ∈ ns, x.kids = [] ∧ x.text.size ≤ M) {c : Nat} (it : Nat) (l : List Nat) (v : V) (it' : Nat) (r : List Nat) (hl : l.length ≤ M) (h : stepA tl ns c it l = some (v, it', r)) : Fit M it v it' ∧ r.length ≤ l.length := by
  refine ⟨?_, stepA_len h⟩
  unfold stepA at h
  cases hd : dataD c l with
  | none => rw [hd] at h; cases h
  | some q =>
    obtain ⟨d, r2⟩ := q
    have h2 := data_len hd
    rw [hd] at h
    simp only at h
    cases h3 : tl it ns c d with
    | none => rw [h3] at h; cases h
    | some q =>
      obtain ⟨v2, it2⟩ := q
      rw [h3] at h
      simp only [Option.some.injEq, Prod.mk.injEq] at h
      obtain ⟨rfl, rfl, _⟩ := h
      exact ht _ _ _ _ _ _ hn (by omega) h3
theorem endL_some {R : Option (List V × Nat × List Nat)} {vs : List V} {it : Nat} (h : endL R = some (vs, it)) : R = some (vs, it, []) := by
  unfold endL at h
  split at h
  · simp only [Option.some.injEq, Prod.mk.injEq] at h
    obtain ⟨rfl, rfl⟩ := h
    rfl
  · cases h
/-- What kids tell, by a name for each case. -/
theorem kids_some {tl : Nat → List V → Nat → List Nat → Option (V × Nat)} {c it it' : Nat} {d : List Nat} {vs : List V} (h : kidsD tl c it d = some (vs, it')) : sw c ≤ d.length ∧ tn (d.take (sw c)) ≤ 1024 ∧
    ((kof c = 24 ∧ ∃ ns c' r, headD (d.drop (sw c)) = .ok (ns, c', r) ∧ loopN (stepA tl (ns.take 16) c') (tn (d.take (sw c))) it r = some (vs, it', [])) ∨
      (kof c ≠ 24 ∧ loopN (stepV tl) (tn (d.take (sw c))) it (d.drop (sw c)) = some (vs, it', []))) := by
  unfold kidsD at h
  by_cases h0 : d.length < sw c
  · rw [if_pos h0] at h; cases h
  rw [if_neg h0] at h
  by_cases h1 : 1024 < tn (d.take (sw c))
  · rw [if_pos h1] at h; cases h
  rw [if_neg h1] at h
  refine ⟨by omega, by omega, ?_⟩
  by_cases hk : kof c = 24
  · rw [if_pos hk] at h
    cases hH : headD (d.drop (sw c)) with
    | error s => rw [hH] at h; cases h
    | ok p =>
      obtain ⟨ns, k, L0⟩ := p
      rw [hH] at h
      exact .inl ⟨hk, ns, k, L0, rfl, endL_some h⟩
  · rw [if_neg hk] at h
    exact .inr ⟨hk, endL_some h⟩
theorem told_fit (M : Nat) : ∀ (F it : Nat) (ns : List V) (c : Nat) (d : List Nat) (v : V) (it' : Nat), (∀ x ∈ ns, x.kids = [] ∧ x.text.size ≤ M) → d.length ≤ M → toldN F it ns c d = some (v, it') → Fit M it v it'
  | 0, _, _, _, _, _, _, _, _, h => by simp [toldN] at h
  | F + 1, it, ns, c, d, v, it', hn, hd, h => by
    rw [told_succ] at h
    by_cases hm : 1024 < it + 1 + 2 * ns.length
    · rw [if_pos hm] at h; cases h
    rw [if_neg hm] at h
    unfold aloneD at h
    by_cases hk : kof c < 22
    · rw [if_pos hk] at h
      simp only [Option.some.injEq, Prod.mk.injEq] at h
      obtain ⟨rfl, rfl⟩ := h
      obtain ⟨h1, h2⟩ := leaf_fit (plain_kids c d) (Nat.le_trans (plain_text c d) hd)
      obtain ⟨h3, h4⟩ := called_fit hn (v := plainV c d) (by rw [h1]; omega)
      exact ⟨by omega, h4⟩
    · rw [if_neg hk] at h
      cases hK : kidsD (toldN F) c (it + 1 + 2 * ns.length) d with
      | none => rw [hK] at h; cases h
      | some p =>
        obtain ⟨vs, it2⟩ := p
        rw [hK] at h
        simp only [Option.some.injEq, Prod.mk.injEq] at h
        obtain ⟨rfl, rfl⟩ := h
        obtain ⟨hw, _, hcase⟩ := kids_some hK
        have hT := told_fit M F
        have hL : (d.drop (sw c)).length ≤ M := by rw [List.length_drop]; omega
        have hfin : itemsL vs + (it + 1 + 2 * ns.length) = it2 ∧ bulkL vs ≤ itemsL vs * (M + 1) := by
          rcases hcase with ⟨_, ns', c', r, hH, hl⟩ | ⟨_, hl⟩
          · have h1 := (headN_lt _ _ _ _ _ hH).1
            have h4 := head_txt _ _ _ _ _ hH
            exact loop_fit (stepA_fit hT fun x hx => ⟨(h4 x (List.mem_of_mem_take hx)).1, Nat.le_trans (h4 x (List.mem_of_mem_take hx)).2 hL⟩) _ _ _ _ _ _ (by omega) hl
          · exact loop_fit (stepV_fit hT) _ _ _ _ _ _ hL hl
        have h6 : (ByteArray.mk #[]).size = 0 := rfl
        obtain ⟨h3, h4⟩ := called_fit hn (v := .mk (kof c) 0 ⟨#[]⟩ vs) (by simp only [bulk, items, Nat.add_mul]; omega)
        refine ⟨?_, h4⟩
        rw [h3]
        simp only [items]
        omega
/-- What is read. -/
theorem val_fit {F it it' : Nat} {l r : List Nat} {v : V} (h : valD (toldN F) it l = .ok (v, it', r)) : Fit l.length it v it' ∧ r.length ≤ l.length := by
  have hs : stepV (toldN F) it l = some (v, it', r) := by rw [step_val, h]
  exact stepV_fit (told_fit l.length F) it l v it' r (Nat.le_refl _) hs
end Go.Proofs.YtikjnbognjicdaaDoor.Dec
