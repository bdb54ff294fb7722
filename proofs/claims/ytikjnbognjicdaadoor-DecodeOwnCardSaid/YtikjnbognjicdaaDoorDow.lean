/-
  What is read hangs on its own bytes alone. No Go in it.
-/
import Derived.Test.YtikjnbognjicdaaDoorDcl
namespace Go.Proofs.YtikjnbognjicdaaDoor.Dec
open Go.Proofs.YtikjnbognjicdaaDoor.Val V Go.Proofs.YtikjnbognjicdaaDoor.Utf

/- How deep told may go says nothing, if it is more than there are bytes. -/
theorem loop_congr {s s' : Nat → List Nat → Option (V × Nat × List Nat)} {M : Nat} (h : ∀ it l, l.length ≤ M → s it l = s' it l) (hl : ∀ it l v it' r, s it l = some (v, it', r) → r.length ≤ l.length) : ∀ (n it : Nat) (l : List Nat), l.length ≤ M → loopN s n it l = loopN s' n it l
  | 0, _, _, _ => rfl
  | n + 1, it, l, hm => by
    rw [loopN, loopN, ← h it l hm]
    cases hs : s it l with
    | none => rfl
    | some p =>
      obtain ⟨v, it', r⟩ := p
      simp only
      rw [loop_congr h hl n it' r (Nat.le_trans (hl _ _ _ _ _ hs) hm)]
theorem stepV_congr {tl tl' : Nat → List V → Nat → List Nat → Option (V × Nat)} {M : Nat} (h : ∀ it ns c d, d.length < M → tl it ns c d = tl' it ns c d) (it : Nat) (l : List Nat) (hl : l.length ≤ M) : stepV tl it l = stepV tl' it l := by
  unfold stepV
  cases hh : headD l with
  | error s => rfl
  | ok p =>
    obtain ⟨ns, c, r⟩ := p
    have h1 := (headN_lt _ _ _ _ _ hh).1
    simp only
    cases hd : dataD c r with
    | none => rfl
    | some q =>
      obtain ⟨d, r'⟩ := q
      have h2 := data_len hd
      simp only
      rw [h _ _ _ _ (by omega)]
theorem stepA_congr {tl tl' : Nat → List V → Nat → List Nat → Option (V × Nat)} {M : Nat} (h : ∀ it ns c d, d.length < M → tl it ns c d = tl' it ns c d) (ns : List V) (c it : Nat) (l : List Nat) (hl : l.length < M) : stepA tl ns c it l = stepA tl' ns c it l := by
  unfold stepA
  cases hd : dataD c l with
  | none => rfl
  | some q =>
    obtain ⟨d, r'⟩ := q
    have h2 := data_len hd
    simp only
    rw [h _ _ _ _ (by omega)]
theorem kids_congr {tl tl' : Nat → List V → Nat → List Nat → Option (V × Nat)} {c it : Nat} {d : List Nat} (h : ∀ it ns c d', d'.length < d.length → tl it ns c d' = tl' it ns c d') : kidsD tl c it d = kidsD tl' c it d := by
  unfold kidsD
  have hL : (d.drop (sw c)).length ≤ d.length := by rw [List.length_drop]; omega
  by_cases h0 : d.length < sw c
  · rw [if_pos h0, if_pos h0]
  rw [if_neg h0, if_neg h0]
  by_cases h1 : 1024 < tn (d.take (sw c))
  · rw [if_pos h1, if_pos h1]
  rw [if_neg h1, if_neg h1]
  by_cases hk : kof c = 24
  · rw [if_pos hk, if_pos hk]
    cases hH : headD (d.drop (sw c)) with
    | error s => rfl
    | ok p =>
      obtain ⟨ns, k, L0⟩ := p
      have h2 := (headN_lt _ _ _ _ _ hH).1
      simp only
      rw [loop_congr (s' := stepA tl' (ns.take 16) k) (M := d.length - 1) (fun it l hl => stepA_congr h _ _ it l (by omega)) (fun it l v it' r => stepA_len) _ _ _ (by omega)]
  · rw [if_neg hk, if_neg hk]
    rw [loop_congr (s' := stepV tl') (M := d.length) (fun it l hl => stepV_congr h it l hl) (fun it l v it' r => stepV_len) _ _ _ hL]
theorem told_fuel : ∀ (F F' it : Nat) (ns : List V) (c : Nat) (d : List Nat), d.length < F → d.length < F' → toldN F it ns c d = toldN F' it ns c d
  | 0, _, _, _, _, _, h, _ => absurd h (Nat.not_lt_zero _)
  | _ + 1, 0, _, _, _, _, _, h => absurd h (Nat.not_lt_zero _)
  | F + 1, F' + 1, it, ns, c, d, h, h' => by
    have e : ∀ it', aloneD (toldN F) it' c d = aloneD (toldN F') it' c d := fun it' => by
      unfold aloneD
      rw [kids_congr fun it2 ns2 c2 d2 h2 => told_fuel F F' it2 ns2 c2 d2 (by omega) (by omega)]
    rw [told_succ, told_succ, e]

/- With more behind it. -/
theorem data_more {c : Nat} {l d r : List Nat} (h : dataD c l = some (d, r)) (m : List Nat) : dataD c (l ++ m) = some (d, r ++ m) := by
  unfold dataD at h ⊢
  by_cases h0 : sw c = 0
  · rw [if_pos h0] at h ⊢
    by_cases h1 : lg c ≤ l.length
    · rw [if_pos h1] at h
      injection h with h
      injection h with e1 e2
      subst e1 e2
      rw [if_pos (by rw [List.length_append]; omega), List.take_append_of_le_length h1, List.drop_append_of_le_length h1]
    · rw [if_neg h1] at h; cases h
  · rw [if_neg h0] at h ⊢
    by_cases h1 : sw c ≤ l.length
    · rw [if_pos h1] at h
      rw [if_pos (by rw [List.length_append]; omega), List.take_append_of_le_length h1, List.drop_append_of_le_length h1]
      by_cases h2 : tn (l.take (sw c)) ≤ (l.drop (sw c)).length
      · rw [if_pos h2] at h
        injection h with h
        injection h with e1 e2
        subst e1 e2
        rw [if_pos (by rw [List.length_append]; omega), List.take_append_of_le_length h2, List.drop_append_of_le_length h2]
      · rw [if_neg h2] at h; cases h
    · rw [if_neg h1] at h; cases h
theorem cut_len {α : Type} {a b x y : List α} (h : a ++ b = x ++ y) (hl : b.length = y.length) : a = x ∧ b = y := by
  have := congrArg List.length h
  simp only [List.length_append] at this
  exact List.append_inj h (by omega)
theorem data_less {c : Nat} {l m d r : List Nat} (h : dataD c (l ++ m) = some (d, r)) (hr : m.length ≤ r.length) : ∃ r', r = r' ++ m ∧ dataD c l = some (d, r') := by
  cases hd : dataD c l with
  | some q =>
    obtain ⟨d1, r1⟩ := q
    have := data_more hd m
    rw [h] at this
    simp only [Option.some.injEq, Prod.mk.injEq] at this
    obtain ⟨rfl, rfl⟩ := this
    exact ⟨r1, rfl, rfl⟩
  | none =>
    exfalso
    unfold dataD at h hd
    by_cases h0 : sw c = 0
    · rw [if_pos h0] at h hd
      by_cases h1 : lg c ≤ l.length
      · rw [if_pos h1] at hd; cases hd
      · by_cases h2 : lg c ≤ (l ++ m).length
        · rw [if_pos h2] at h
          simp only [Option.some.injEq, Prod.mk.injEq] at h
          obtain ⟨_, rfl⟩ := h
          rw [List.length_drop, List.length_append] at hr
          rw [List.length_append] at h2
          omega
        · rw [if_neg h2] at h; cases h
    · rw [if_neg h0] at h hd
      by_cases h1 : sw c ≤ l.length
      · rw [if_pos h1] at hd
        rw [if_pos (by rw [List.length_append]; omega), List.take_append_of_le_length h1, List.drop_append_of_le_length h1] at h
        by_cases h2 : tn (l.take (sw c)) ≤ (l.drop (sw c)).length
        · rw [if_pos h2] at hd; cases hd
        · by_cases h3 : tn (l.take (sw c)) ≤ (l.drop (sw c) ++ m).length
          · rw [if_pos h3] at h
            simp only [Option.some.injEq, Prod.mk.injEq] at h
            obtain ⟨_, rfl⟩ := h
            rw [List.length_drop, List.length_append] at hr
            rw [List.length_append] at h3
            omega
          · rw [if_neg h3] at h; cases h
      · by_cases h2 : sw c ≤ (l ++ m).length
        · rw [if_pos h2] at h
          by_cases h3 : tn ((l ++ m).take (sw c)) ≤ ((l ++ m).drop (sw c)).length
          · rw [if_pos h3] at h
            simp only [Option.some.injEq, Prod.mk.injEq] at h
            obtain ⟨_, rfl⟩ := h
            rw [List.length_drop, List.length_drop, List.length_append] at hr
            rw [List.length_append] at h2
            omega
          · rw [if_neg h3] at h; cases h
        · rw [if_neg h2] at h; cases h
theorem name_more {l r : List Nat} {v : V} (h : nameD l = .ok (v, r)) (m : List Nat) : nameD (l ++ m) = .ok (v, r ++ m) := by
  cases l with
  | nil => cases h
  | cons c l =>
    simp only [nameD, List.cons_append] at h ⊢
    by_cases hk : kof c = 6 ∨ kof c = 21
    · rw [if_pos hk] at h ⊢
      cases hd : dataD c l with
      | none => rw [hd] at h; cases h
      | some q =>
        obtain ⟨d, q⟩ := q
        rw [hd] at h
        rw [data_more hd m]
        simp only [Except.ok.injEq, Prod.mk.injEq] at h ⊢
        obtain ⟨rfl, rfl⟩ := h
        exact ⟨rfl, rfl⟩
    · rw [if_neg hk] at h; cases h
theorem name_form {l : List Nat} (h : nameD l = .error false) (m : List Nat) : nameD (l ++ m) = .error false := by
  cases l with
  | nil => cases h
  | cons c l =>
    simp only [nameD, List.cons_append] at h ⊢
    by_cases hk : kof c = 6 ∨ kof c = 21
    · rw [if_pos hk] at h
      cases hd : dataD c l with
      | none => rw [hd] at h; cases h
      | some q => rw [hd] at h; cases h
    · rw [if_neg hk]
theorem name_less {l m r : List Nat} {v : V} (h : nameD (l ++ m) = .ok (v, r)) (hr : m.length ≤ r.length) : ∃ r', r = r' ++ m ∧ nameD l = .ok (v, r') := by
  cases l with
  | nil =>
    have := (name_txt h).2.2
    simp only [List.nil_append] at h this
    cases m with
    | nil => cases h
    | cons c l =>
      exfalso
      simp only [nameD] at h
      by_cases hk : kof c = 6 ∨ kof c = 21
      · rw [if_pos hk] at h
        cases hd : dataD c l with
        | none => rw [hd] at h; cases h
        | some q =>
          obtain ⟨d, q⟩ := q
          have := data_len hd
          rw [hd] at h
          simp only [Except.ok.injEq, Prod.mk.injEq] at h
          obtain ⟨_, rfl⟩ := h
          simp only [List.length_cons] at hr
          omega
      · rw [if_neg hk] at h; cases h
  | cons c l =>
    simp only [nameD, List.cons_append] at h ⊢
    by_cases hk : kof c = 6 ∨ kof c = 21
    · rw [if_pos hk] at h ⊢
      cases hd : dataD c (l ++ m) with
      | none => rw [hd] at h; cases h
      | some q =>
        obtain ⟨d, q⟩ := q
        rw [hd] at h
        simp only [Except.ok.injEq, Prod.mk.injEq] at h
        obtain ⟨rfl, rfl⟩ := h
        obtain ⟨r', rfl, h2⟩ := data_less hd hr
        exact ⟨r', rfl, by rw [h2]⟩
    · rw [if_neg hk] at h; cases h
theorem name_long {l r : List Nat} {v : V} (h : nameD l = .ok (v, r)) : r.length < l.length := by
  obtain ⟨r', h1, h2⟩ | h1 : (∃ r', r = r' ++ l ∧ nameD [] = .ok (v, r')) ∨ r.length < l.length := by
    by_cases hl : l.length ≤ r.length
    · exact .inl (name_less (l := []) h hl)
    · exact .inr (by omega)
  · cases h2
  · exact h1

/-- A constructor, however many turns it may take, with more behind it. -/
theorem head_more : ∀ (N N' : Nat) (l m : List Nat), l.length < N → (l ++ m).length < N' →
    (∀ ns c r, headN N l = .ok (ns, c, r) → headN N' (l ++ m) = .ok (ns, c, r ++ m)) ∧ (headN N l = .error false → headN N' (l ++ m) = .error false)
  | 0, _, _, _, h, _ => absurd h (Nat.not_lt_zero _)
  | _ + 1, 0, _, _, _, h => absurd h (Nat.not_lt_zero _)
  | N + 1, N' + 1, [], m, _, _ => ⟨fun ns c r h => (by cases h), fun h => (by cases h)⟩
  | N + 1, N' + 1, c :: l, m, h, h' => by
    simp only [List.length_cons, List.length_append] at h h'
    rw [List.cons_append, headN, headN]
    by_cases hc : c = 0
    · rw [if_pos hc, if_pos hc]
      cases hn : nameD l with
      | error s =>
        refine ⟨fun ns c' r hh => (by cases hh), fun hh => ?_⟩
        simp only [Except.error.injEq] at hh
        subst hh
        rw [name_form hn m]
      | ok p =>
        obtain ⟨v, r1⟩ := p
        have h1 := name_long hn
        rw [name_more hn m]
        simp only
        obtain ⟨i1, i2⟩ := head_more N N' r1 m (by omega) (by simp only [List.length_append]; omega)
        cases h2 : headN N r1 with
        | error s =>
          refine ⟨fun ns c' r hh => (by cases hh), fun hh => ?_⟩
          simp only [Except.error.injEq] at hh
          subst hh
          rw [i2 h2]
        | ok p =>
          obtain ⟨ns2, c2, r2⟩ := p
          refine ⟨fun ns c' r hh => ?_, fun hh => (by cases hh)⟩
          simp only [Except.ok.injEq, Prod.mk.injEq] at hh
          obtain ⟨rfl, rfl, rfl⟩ := hh
          rw [i1 _ _ _ h2]
    · rw [if_neg hc, if_neg hc]
      by_cases hk : kof c = 0
      · rw [if_pos hk, if_pos hk]
        exact ⟨fun ns c' r hh => (by cases hh), fun _ => rfl⟩
      · rw [if_neg hk, if_neg hk]
        refine ⟨fun ns c' r hh => ?_, fun hh => (by cases hh)⟩
        simp only [Except.ok.injEq, Prod.mk.injEq] at hh ⊢
        obtain ⟨rfl, rfl, rfl⟩ := hh
        exact ⟨rfl, rfl, rfl⟩
theorem head_less : ∀ (N N' : Nat) (l m : List Nat) (ns : List V) (c : Nat) (r : List Nat), l.length < N → (l ++ m).length < N' → headN N' (l ++ m) = .ok (ns, c, r) → m.length ≤ r.length → ∃ r', r = r' ++ m ∧ headN N l = .ok (ns, c, r')
  | 0, _, _, _, _, _, _, h, _, _, _ => absurd h (Nat.not_lt_zero _)
  | _ + 1, 0, _, _, _, _, _, _, h, _, _ => absurd h (Nat.not_lt_zero _)
  | N + 1, N' + 1, [], m, ns, c, r, _, _, hh, hr => by
    have := (headN_lt _ _ _ _ _ hh).1
    rw [List.nil_append] at this
    omega
  | N + 1, N' + 1, c :: l, m, ns, c', r, h, h', hh, hr => by
    simp only [List.length_cons, List.length_append] at h h'
    rw [List.cons_append, headN] at hh
    rw [headN]
    by_cases hc : c = 0
    · rw [if_pos hc] at hh ⊢
      cases hn : nameD (l ++ m) with
      | error s => rw [hn] at hh; cases hh
      | ok p =>
        obtain ⟨v, r1⟩ := p
        have h1 := name_long hn
        rw [List.length_append] at h1
        rw [hn] at hh
        simp only at hh
        cases h2 : headN N' r1 with
        | error s => rw [h2] at hh; cases hh
        | ok p =>
          obtain ⟨ns2, c2, r2⟩ := p
          have h3 := (headN_lt _ _ _ _ _ h2).1
          rw [h2] at hh
          simp only [Except.ok.injEq, Prod.mk.injEq] at hh
          obtain ⟨rfl, rfl, rfl⟩ := hh
          obtain ⟨r1', rfl, hn'⟩ := name_less hn (by omega)
          have h4 := name_long hn'
          obtain ⟨r', rfl, h5⟩ := head_less N N' r1' m _ _ _ (by omega) (by omega) h2 hr
          exact ⟨r', rfl, by rw [hn']; simp only; rw [h5]⟩
    · rw [if_neg hc] at hh ⊢
      by_cases hk : kof c = 0
      · rw [if_pos hk] at hh; cases hh
      · rw [if_neg hk] at hh ⊢
        simp only [Except.ok.injEq, Prod.mk.injEq] at hh ⊢
        obtain ⟨rfl, rfl, rfl⟩ := hh
        exact ⟨l, rfl, rfl, rfl, rfl⟩

/- Values. -/
theorem val_more {b : List Nat} {v : V} {it : Nat} {r : List Nat} (h : valD (toldN b.length) 0 b = .ok (v, it, r)) (m : List Nat) : valD (toldN (b ++ m).length) 0 (b ++ m) = .ok (v, it, r ++ m) := by
  unfold valD at h ⊢
  cases hh : headD b with
  | error s => rw [hh] at h; cases h
  | ok p =>
    obtain ⟨ns, c, r1⟩ := p
    have h1 := (headN_lt _ _ _ _ _ hh).1
    have h2 : headD (b ++ m) = .ok (ns, c, r1 ++ m) := (head_more _ _ b m (Nat.lt_succ_self _) (Nat.lt_succ_self _)).1 _ _ _ hh
    rw [hh] at h
    rw [h2]
    simp only at h ⊢
    cases hd : dataD c r1 with
    | none => rw [hd] at h; cases h
    | some q =>
      obtain ⟨d, r2⟩ := q
      have h3 := data_len hd
      rw [hd] at h
      rw [data_more hd m]
      simp only at h ⊢
      rw [told_fuel (b ++ m).length b.length _ _ _ _ (by rw [List.length_append]; omega) (by omega)]
      cases ht : toldN b.length 0 (ns.take 16) c d with
      | none => rw [ht] at h; cases h
      | some q =>
        obtain ⟨v2, it2⟩ := q
        rw [ht] at h
        simp only [Except.ok.injEq, Prod.mk.injEq] at h ⊢
        obtain ⟨rfl, rfl, rfl⟩ := h
        exact ⟨rfl, rfl, rfl⟩
theorem val_form {b : List Nat} (h : valD (toldN b.length) 0 b = .error false) (m : List Nat) : valD (toldN (b ++ m).length) 0 (b ++ m) = .error false := by
  unfold valD at h ⊢
  cases hh : headD b with
  | error s =>
    rw [hh] at h
    simp only [Except.error.injEq] at h
    subst h
    rw [show headD (b ++ m) = .error false from (head_more _ _ b m (Nat.lt_succ_self _) (Nat.lt_succ_self _)).2 hh]
  | ok p =>
    obtain ⟨ns, c, r1⟩ := p
    have h1 := (headN_lt _ _ _ _ _ hh).1
    have h2 : headD (b ++ m) = .ok (ns, c, r1 ++ m) := (head_more _ _ b m (Nat.lt_succ_self _) (Nat.lt_succ_self _)).1 _ _ _ hh
    rw [hh] at h
    rw [h2]
    simp only at h ⊢
    cases hd : dataD c r1 with
    | none => rw [hd] at h; cases h
    | some q =>
      obtain ⟨d, r2⟩ := q
      have h3 := data_len hd
      rw [hd] at h
      rw [data_more hd m]
      simp only at h ⊢
      rw [told_fuel (b ++ m).length b.length _ _ _ _ (by rw [List.length_append]; omega) (by omega)]
      cases ht : toldN b.length 0 (ns.take 16) c d with
      | none => rfl
      | some q => rw [ht] at h; cases h
theorem val_less {b m : List Nat} {v : V} {it : Nat} {r : List Nat} (h : valD (toldN (b ++ m).length) 0 (b ++ m) = .ok (v, it, r)) (hr : m.length ≤ r.length) : ∃ r', r = r' ++ m ∧ valD (toldN b.length) 0 b = .ok (v, it, r') := by
  unfold valD at h
  cases hh : headD (b ++ m) with
  | error s => rw [hh] at h; cases h
  | ok p =>
    obtain ⟨ns, c, r1⟩ := p
    rw [hh] at h
    simp only at h
    cases hd : dataD c r1 with
    | none => rw [hd] at h; cases h
    | some q =>
      obtain ⟨d, r2⟩ := q
      have h3 := data_len hd
      rw [hd] at h
      simp only at h
      cases ht : toldN (b ++ m).length 0 (ns.take 16) c d with
      | none => rw [ht] at h; cases h
      | some q =>
        obtain ⟨v2, it2⟩ := q
        rw [ht] at h
        simp only [Except.ok.injEq, Prod.mk.injEq] at h
        obtain ⟨rfl, rfl, rfl⟩ := h
        obtain ⟨r1', rfl, h4⟩ := head_less (b.length + 1) _ b m _ _ _ (Nat.lt_succ_self _) (Nat.lt_succ_self _) hh (by omega)
        obtain ⟨r2', rfl, h5⟩ := data_less hd hr
        have h6 := (headN_lt _ _ _ _ _ h4).1
        have h7 := data_len h5
        refine ⟨r2', rfl, ?_⟩
        unfold valD
        rw [show headD b = .ok (ns, c, r1') from h4]
        simp only
        rw [h5]
        simp only
        rw [told_fuel b.length (b ++ m).length _ _ _ _ (by omega) (by rw [List.length_append]; omega), ht]
theorem val_long {F it : Nat} {b r : List Nat} {v : V} {it' : Nat} (h : valD (toldN F) it b = .ok (v, it', r)) : r.length < b.length := by
  unfold valD at h
  cases hh : headD b with
  | error s => rw [hh] at h; cases h
  | ok p =>
    obtain ⟨ns, c, r1⟩ := p
    have h1 := (headN_lt _ _ _ _ _ hh).1
    rw [hh] at h
    simp only at h
    cases hd : dataD c r1 with
    | none => rw [hd] at h; cases h
    | some q =>
      obtain ⟨d, r2⟩ := q
      have h3 := data_len hd
      rw [hd] at h
      simp only at h
      cases ht : toldN F it (ns.take 16) c d with
      | none => rw [ht] at h; cases h
      | some q =>
        rw [ht] at h
        simp only [Except.ok.injEq, Prod.mk.injEq] at h
        obtain ⟨_, _, rfl⟩ := h
        omega
end Go.Proofs.YtikjnbognjicdaaDoor.Dec

namespace Go.Proofs.YtikjnbognjicdaaDoor.Dec
open Go.Proofs.YtikjnbognjicdaaDoor.Val V Go.Proofs.YtikjnbognjicdaaDoor.Utf
/-- What decode.Value answers: one of three. -/
theorem dec_ways (b : List Nat) : (∃ v it r, valD (toldN b.length) 0 b = .ok (v, it, r) ∧ okB v = true ∧ decD b = (v, b.length - r.length, 0)) ∨
    (((∃ v it r, valD (toldN b.length) 0 b = .ok (v, it, r) ∧ ¬ okB v = true) ∨ valD (toldN b.length) 0 b = .error false) ∧ decD b = (zeroV, 0, 6)) ∨ (valD (toldN b.length) 0 b = .error true ∧ decD b = (zeroV, 0, 7)) := by
  cases h : valD (toldN b.length) 0 b with
  | error s =>
    rw [dec_of_error h]
    cases s with
    | true => exact .inr (.inr ⟨rfl, rfl⟩)
    | false => exact .inr (.inl ⟨.inr rfl, rfl⟩)
  | ok p =>
    obtain ⟨v, it, r⟩ := p
    rw [dec_of_ok h]
    by_cases hok : okB v = true
    · exact .inl ⟨v, it, r, rfl, hok, by rw [if_pos hok]⟩
    · exact .inr (.inl ⟨.inl ⟨v, it, r, rfl, hok⟩, by rw [if_neg hok]⟩)
theorem dec_ok {b r : List Nat} {v : V} {it : Nat} (h : valD (toldN b.length) 0 b = .ok (v, it, r)) (hok : okB v = true) : decD b = (v, b.length - r.length, 0) := by rw [dec_of_ok h, if_pos hok]
theorem own_ok {b : List Nat} {v : V} {n : Nat} (h : decD b = (v, n, 0)) : 1 ≤ n ∧ n ≤ b.length ∧ (∀ m, decD (b ++ m) = (v, n, 0)) ∧ decD (b.take n) = (v, n, 0) ∧ decD (b.take (n - 1)) = (zeroV, 0, 7) := by
  rcases dec_ways b with ⟨v', it, r, hv, hok, hd⟩ | ⟨_, hd⟩ | ⟨_, hd⟩
  · rw [hd] at h
    simp only [Prod.mk.injEq, and_true] at h
    obtain ⟨rfl, hn⟩ := h
    have hr := val_long hv
    have hsplit : b = b.take n ++ r := by
      have h1 : b = b ++ [] := (List.append_nil b).symm
      have hv2 : valD (toldN (b.take n ++ b.drop n).length) 0 (b.take n ++ b.drop n) = .ok (v', it, r) := by rw [List.take_append_drop]; exact hv
      obtain ⟨r', hr', _⟩ := val_less hv2 (by rw [List.length_drop]; omega)
      have hl : r' = [] := List.eq_nil_of_length_eq_zero (by have := congrArg List.length hr'; rw [List.length_append, List.length_drop] at this; omega)
      subst hl
      rw [List.nil_append] at hr'
      rw [hr', List.take_append_drop]
    have hcut : valD (toldN (b.take n).length) 0 (b.take n) = .ok (v', it, []) := by
      obtain ⟨r', h1, h2⟩ := val_less (b := b.take n) (m := r) (by rw [← hsplit]; exact hv) (Nat.le_refl _)
      have hl : r' = [] := List.eq_nil_of_length_eq_zero (by have := congrArg List.length h1; rw [List.length_append] at this; omega)
      subst hl
      exact h2
    have htl : (b.take n).length = n := by rw [List.length_take]; omega
    refine ⟨by omega, by omega, fun m => ?_, ?_, ?_⟩
    · rw [dec_ok (val_more hv m) hok]
      simp only [Prod.mk.injEq, and_true, true_and, List.length_append]
      omega
    · rw [dec_ok hcut hok, htl]
      simp
    · have e : b.take n = b.take (n - 1) ++ (b.take n).drop (n - 1) := by
        have h1 := (List.take_append_drop (n - 1) (b.take n)).symm
        rwa [List.take_take, Nat.min_eq_left (by omega)] at h1
      have hl1 : (b.take (n - 1)).length = n - 1 := by rw [List.length_take]; omega
      rcases dec_ways (b.take (n - 1)) with ⟨v2, it2, r2, hv2, _, _⟩ | ⟨⟨v2, it2, r2, hv2, _⟩ | hf, _⟩ | ⟨_, hd2⟩
      · have h3 := val_more hv2 ((b.take n).drop (n - 1))
        rw [← e, hcut] at h3
        simp only [Except.ok.injEq, Prod.mk.injEq] at h3
        have h4 := congrArg List.length h3.2.2
        rw [List.length_append, List.length_drop, htl] at h4
        simp at h4
        omega
      · have h3 := val_more hv2 ((b.take n).drop (n - 1))
        rw [← e, hcut] at h3
        simp only [Except.ok.injEq, Prod.mk.injEq] at h3
        have h4 := congrArg List.length h3.2.2
        rw [List.length_append, List.length_drop, htl] at h4
        simp at h4
        omega
      · have h3 := val_form hf ((b.take n).drop (n - 1))
        rw [← e, hcut] at h3
        cases h3
      · exact hd2
  · rw [hd] at h; simp at h
  · rw [hd] at h; simp at h
theorem own_form {b : List Nat} {v : V} {n : Nat} (h : decD b = (v, n, 6)) (m : List Nat) : decD (b ++ m) = (zeroV, 0, 6) := by
  rcases dec_ways b with ⟨v', it, r, hv, hok, hd⟩ | ⟨⟨v2, it2, r2, hv2, hno⟩ | hf, hd⟩ | ⟨_, hd⟩
  · rw [hd] at h; simp at h
  · rw [dec_of_ok (val_more hv2 m), if_neg hno]
  · exact dec_of_error (val_form hf m)
  · rw [hd] at h; simp at h
theorem own_short {b m : List Nat} {v v' : V} {n n' : Nat} (h : decD b = (v, n, 7)) (h' : decD (b ++ m) = (v', n', 0)) : b.length < n' := by
  rcases dec_ways b with ⟨v2, it, r, hv, hok, hd⟩ | ⟨_, hd⟩ | ⟨hs, _⟩
  · rw [hd] at h; simp at h
  · rw [hd] at h; simp at h
  · rcases dec_ways (b ++ m) with ⟨v2, it, r, hv, hok, hd⟩ | ⟨_, hd⟩ | ⟨_, hd⟩
    · rw [hd] at h'
      simp only [Prod.mk.injEq, and_true] at h'
      obtain ⟨_, h1⟩ := h'
      have h2 := val_long hv
      rw [List.length_append] at h1 h2
      by_cases hr : m.length ≤ r.length
      · obtain ⟨r', _, h3⟩ := val_less hv hr
        rw [hs] at h3
        cases h3
      · omega
    · rw [hd] at h'; simp at h'
    · rw [hd] at h'; simp at h'
/-- The numbers that decode.Value answers. -/
theorem dec_errs (b : List Nat) : (decD b).2.2 = 0 ∨ (decD b).2.2 = 6 ∨ (decD b).2.2 = 7 := by
  rcases dec_ways b with ⟨v', it, r, hv, hok, hd⟩ | ⟨_, hd⟩ | ⟨_, hd⟩
  · rw [hd]; exact .inl rfl
  · rw [hd]; exact .inr (.inl rfl)
  · rw [hd]; exact .inr (.inr rfl)
end Go.Proofs.YtikjnbognjicdaaDoor.Dec
