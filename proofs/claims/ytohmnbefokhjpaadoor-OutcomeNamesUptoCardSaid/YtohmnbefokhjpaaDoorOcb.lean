/-
  Outcomes as values, as plain mathematics: what is put may be a value, and is got as it was; by its name as by its code; with a field more not at all. No Go in it.
-/
import Derived.Test.YtohmnbefokhjpaaDoorOcm
namespace Go.Proofs.YtohmnbefokhjpaaDoor.Oc
set_option maxRecDepth 100000
open Go.Proofs.YtohmnbefokhjpaaDoor.Utf Go.Proofs.YtohmnbefokhjpaaDoor.Val Go.Proofs.YtohmnbefokhjpaaDoor.Fl V

theorem empty_of {c : ByteArray} (h : c.size = 0) : c = ⟨#[]⟩ := by
  cases c with
  | mk d =>
    have : d = #[] := Array.eq_empty_of_size_eq_zero h
    rw [this]
theorem desc_ne {n : Nat} {t : ByteArray} {ks : List V} : ¬ (V.mk 25 n t ks).kind = 1 := by show ¬ (25 = 1); omega
theorem trim_one {x : V} (h : x.kind ≠ 1) : trim [x] = [x] := by
  have : nulAt [x] 0 = false := by simp [nulAt, h]
  simp [trim, cutN, this]
theorem trim_null : trim [nullV] = [] := rfl
theorem trim_two {x y : V} (h : y.kind ≠ 1) : trim [x, y] = [x, y] := by
  have : nulAt [x, y] 1 = false := by simp [nulAt, h]
  simp [trim, cutN, this]
theorem trim_two' {x : V} : trim [x, nullV] = trim [x] := by
  have h1 : nulAt [x, nullV] 1 = true := rfl
  have h2 : nulAt [x, nullV] 0 = nulAt [x] 0 := rfl
  unfold trim
  simp only [List.length_cons, List.length_nil, cutN, h1, h2]
  by_cases h : nulAt [x] 0 = true
  · simp [h]
  · simp [h]
theorem err_kind {c : ByteArray} (h : c.size ≠ 0) : errV c = .mk 25 0 ⟨#[]⟩ (putL 29 [.mk 21 0 c []]) := if_neg h
theorem err_null {c : ByteArray} (h : c.size = 0) : errV c = nullV := if_pos h
theorem cok_text {c : ByteArray} (h : cOk c = true) : textB 21 c = true := by
  unfold textB
  simp only [show ¬ (21 = 15 ∨ 21 = 18) by omega, show ¬ (21 = 16) by omega, show ¬ (21 = 17) by omega, show ¬ (21 = 20) by omega, if_false, if_true]
  exact h
theorem may_list {ks : List V} (h : mayL ks = true) : mayB (.mk 22 0 ⟨#[]⟩ ks) = true := by
  have : aloneOk 22 0 ⟨#[]⟩ ks.length = true := by simp [aloneOk, emp0]
  simp only [mayB, h, this, kidsOk]; rfl
theorem may_pair {d y : V} (hd : mayB d = true) (hk : nameB d.kind = true) (hy : mayB y = true) : mayB (.mk 25 0 ⟨#[]⟩ [d, y]) = true := by
  simp [mayB, mayL, hd, hy, aloneOk, emp0, kidsOk, hk]
theorem may_ulong (n : Nat) : mayB (.mk 6 n ⟨#[]⟩ []) = true := by
  simp [mayB, mayL, aloneOk, emp0, numB, kidsOk]
theorem may_symb {c : ByteArray} (h : cOk c = true) : mayB (.mk 21 0 c []) = true := by
  have h1 : aloneOk 21 0 c 0 = true := by
    unfold aloneOk
    rw [if_neg (by omega), if_neg (by omega), if_pos (by omega), cok_text h]; rfl
  simp [mayB, mayL, h1, kidsOk]
theorem may_null : mayB nullV = true := by simp [nullV, mayB, mayL, aloneOk, emp0, kidsOk]
theorem may_true : mayB (.mk 2 1 ⟨#[]⟩ []) = true := by simp [mayB, mayL, aloneOk, emp0, numB, kidsOk]
theorem may_u32 {n : Nat} (h : n < 4294967296) : mayB (.mk 5 n ⟨#[]⟩ []) = true := by simp [mayB, mayL, aloneOk, emp0, numB, kidsOk, h]
theorem may_err {c : ByteArray} (h : cOk c = true) : mayB (errV c) = true := by
  by_cases hc : c.size = 0
  · rw [err_null hc]; exact may_null
  · rw [err_kind hc]
    exact may_pair (may_ulong 29) rfl (may_list (by simp [mayL, may_symb h]))
theorem may_flag (n : Nat) : mayB (flagV n) = true := by
  unfold flagV
  by_cases h : n = 0
  · rw [if_pos h]; exact may_null
  · rw [if_neg h]; exact may_true
theorem size_err (c : ByteArray) : items (errV c) ≤ 5 ∧ depth (errV c) ≤ 3 := by
  by_cases hc : c.size = 0
  · rw [err_null hc]; simp [nullV, items, itemsL, depth, depthL]
  · rw [err_kind hc]; simp [putL, items, itemsL, depth, depthL]
theorem size_flag (n : Nat) : items (flagV n) = 1 ∧ depth (flagV n) = 1 := by
  unfold flagV
  by_cases h : n = 0
  · rw [if_pos h]; simp [nullV, items, itemsL, depth, depthL]
  · rw [if_neg h]; simp [items, itemsL, depth, depthL]
/-- An outcome's fields may be, and are few. -/
theorem tell_ok {o : O} (h : mayO o = true) : mayL (tellO o) = true ∧ itemsL (tellO o) ≤ 5 ∧ depthL (tellO o) ≤ 3 := by
  unfold mayO at h
  simp only [Bool.and_eq_true] at h
  obtain ⟨⟨⟨h1, h2⟩, h3⟩, h4⟩ := h
  unfold tellO
  by_cases e1 : o.k = 1
  · rw [if_pos e1] at h4 ⊢
    have h4 := of_decide_eq_true h4
    simp [mayL, may_u32 h4, may_ulong, items, itemsL, depth, depthL]
  · rw [if_neg e1]
    by_cases e3 : o.k = 3
    · rw [if_pos e3]
      have := size_err o.c
      simp [mayL, may_err h2, itemsL, depthL, this]
    · rw [if_neg e3]
      by_cases e5 : o.k = 5
      · rw [if_pos e5]
        have := size_flag o.a
        have := size_flag o.b
        simp [mayL, may_flag, itemsL, depthL, size_flag]
      · rw [if_neg e5]
        simp [mayL, itemsL, depthL]
theorem trim_sub (ls : List V) : ∃ j, trim ls = ls.take j := ⟨_, rfl⟩
theorem mayL_tk {ls : List V} (h : mayL ls = true) (j : Nat) : mayL (ls.take j) = true := by
  have e := mayL_append (ls.take j) (ls.drop j)
  rw [List.take_append_drop, h] at e
  cases hj : mayL (ls.take j) with
  | true => rfl
  | false => rw [hj] at e; simp at e
theorem fields_ok {d : V} {ls : List V} (hd : mayB d = true) (hk : nameB d.kind = true) (hi : items d = 1) (hdp : depth d = 1) (h : mayL ls = true) (h1 : itemsL ls ≤ 1000) (h2 : depthL ls ≤ 10) : okB (.mk 25 0 ⟨#[]⟩ [d, .mk 22 0 ⟨#[]⟩ ls]) = true := by
  have hm := may_pair hd hk (may_list h)
  unfold okB
  rw [hm, decide_eq_true (by simp [items, itemsL, hi]; omega), decide_eq_true (by simp [depth, depthL, hdp]; omega)]; rfl
theorem trim_ok {o : O} (h : mayO o = true) : mayL (trim (tellO o)) = true ∧ itemsL (trim (tellO o)) ≤ 5 ∧ depthL (trim (tellO o)) ≤ 3 := by
  obtain ⟨h1, h2, h3⟩ := tell_ok h
  obtain ⟨j, e⟩ := trim_sub (tellO o)
  rw [e]
  exact ⟨mayL_tk h1 j, Nat.le_trans (itemsL_take_le _ _) h2, Nat.le_trans (depthL_take_le _ _) h3⟩
/-- What is put may be. -/
theorem put_ok {o : O} (h : mayO o = true) : okB (putO o) = true := by
  unfold putO
  by_cases h0 : o.k = 0
  · rw [if_pos h0]; simp [nullV, okB, items, itemsL, depth, depthL, mayB, mayL, aloneOk, emp0, kidsOk]
  · rw [if_neg h0]
    obtain ⟨h1, h2, h3⟩ := trim_ok h
    exact fields_ok (may_ulong _) rfl (by simp [items, itemsL]) (by simp [depth, depthL]) h1 (by omega) (by omega)
theorem cond_err {c : ByteArray} (h : cOk c = true) : condR (errV c) = some c := by
  by_cases hc : c.size = 0
  · rw [err_null hc, empty_of hc]; rfl
  · rw [err_kind hc]
    have hok : okB (.mk 25 0 ⟨#[]⟩ (putL 29 [.mk 21 0 c []])) = true := fields_ok (may_ulong _) rfl (by simp [items, itemsL]) (by simp [depth, depthL]) (by simp [mayL, may_symb h]) (by simp [items, itemsL]) (by simp [depth, depthL])
    have hn : newR (.mk 25 0 ⟨#[]⟩ (putL 29 [.mk 21 0 c []])) 29 ename = some [.mk 21 0 c []] := by
      unfold putL at hok ⊢
      rw [newR_list hok, called_code, decide_eq_true rfl, if_pos rfl]
    unfold condR
    rw [if_neg desc_ne, hn]
    exact if_pos rfl
theorem name_ne {i j : Nat} (hi : i ∈ [1, 2, 3, 4, 5]) (hj : j ∈ [1, 2, 3, 4, 5]) : decide (oname i = oname j) = decide (i = j) := by
  simp only [List.mem_cons, List.not_mem_nil, or_false] at hi hj
  rcases hi with rfl | rfl | rfl | rfl | rfl <;> rcases hj with rfl | rfl | rfl | rfl | rfl <;> decide
theorem name_ok {i : Nat} (hi : i ∈ [1, 2, 3, 4, 5]) : cOk (oname i) = true := by
  simp only [List.mem_cons, List.not_mem_nil, or_false] at hi
  rcases hi with rfl | rfl | rfl | rfl | rfl <;> decide
/-- The first one of the five by which a value is called. -/
theorem first_is {v : V} {k : Nat} {ls : List V} : ∀ {l : List Nat}, (∀ j ∈ l, newR v (34 + j) (oname j) = if k = j then some ls else none) → k ∈ l → firstR v l = some (k, ls)
  | x :: l, h, hk => by
    unfold firstR
    rw [h x (by simp)]
    by_cases e : k = x
    · subst e; rw [if_pos rfl]
    · rw [if_neg e]
      exact first_is (fun j hj => h j (by simp [hj])) ((List.mem_cons.1 hk).resolve_left e)
theorem first_no {v : V} : ∀ {l : List Nat}, (∀ j ∈ l, newR v (34 + j) (oname j) = none) → firstR v l = none
  | [], _ => rfl
  | x :: l, h => by
    unfold firstR
    rw [h x (by simp)]
    exact first_no fun j hj => h j (by simp [hj])
theorem get_fields {d : V} {k : Nat} {ls : List V} (hk : k ∈ [1, 2, 3, 4, 5]) (hok : okB (.mk 25 0 ⟨#[]⟩ [d, .mk 22 0 ⟨#[]⟩ ls]) = true) (hd : ∀ j ∈ [1, 2, 3, 4, 5], calledB d (34 + j) (oname j) = decide (k = j)) : getR (.mk 25 0 ⟨#[]⟩ [d, .mk 22 0 ⟨#[]⟩ ls]) = readO k ls := by
  unfold getR
  rw [if_neg desc_ne, first_is (k := k) (ls := ls) (fun j hj => ?_) hk]
  rw [newR_list hok, hd j hj]
  by_cases e : k = j
  · rw [decide_eq_true e, if_pos rfl, if_pos e]
  · rw [decide_eq_false e, if_neg Bool.false_ne_true, if_neg e]
theorem called_five {k : Nat} : ∀ j ∈ [1, 2, 3, 4, 5], calledB (.mk 6 (34 + k) ⟨#[]⟩ []) (34 + j) (oname j) = decide (k = j) := by
  intro j _
  rw [called_code]
  by_cases e : k = j
  · rw [decide_eq_true e, decide_eq_true (by omega)]
  · rw [decide_eq_false e, decide_eq_false (by omega)]
theorem called_five' {k : Nat} (hk : k ∈ [1, 2, 3, 4, 5]) : ∀ j ∈ [1, 2, 3, 4, 5], calledB (.mk 21 0 (oname k) []) (34 + j) (oname j) = decide (k = j) := by
  intro j hj
  rw [called_name, name_ne hk hj]
theorem may_five {o : O} (h : mayO o = true) (h0 : o.k ≠ 0) : o.k ∈ [1, 2, 3, 4, 5] := by
  unfold mayO at h
  simp only [Bool.and_eq_true] at h
  have := of_decide_eq_true h.1.1.1
  simp only [List.mem_cons, List.not_mem_nil, or_false]
  omega
/-- What is told of an outcome is read as it was. -/
theorem read_tell {o : O} (h : mayO o = true) (h0 : o.k ≠ 0) : readO o.k (trim (tellO o)) = some o := by
  have h5 := may_five h h0
  obtain ⟨k, a, b, c⟩ := o
  unfold mayO at h
  simp only [Bool.and_eq_true] at h h5
  obtain ⟨⟨⟨h1, h2⟩, h3⟩, h4⟩ := h
  simp only [List.mem_cons, List.not_mem_nil, or_false] at h5
  rcases h5 with rfl | rfl | rfl | rfl | rfl
  · have hc : c = ⟨#[]⟩ := empty_of (by simpa using h3)
    subst hc
    rw [show tellO ⟨1, a, b, ⟨#[]⟩⟩ = [.mk 5 a ⟨#[]⟩ [], .mk 6 b ⟨#[]⟩ []] from rfl, trim_two (by simp [kind])]
    exact if_pos rfl
  · have hc : c = ⟨#[]⟩ := empty_of (by simpa using h3)
    simp at h4
    obtain ⟨rfl, rfl⟩ := h4
    subst hc
    exact if_pos rfl
  · simp at h4
    obtain ⟨rfl, rfl⟩ := h4
    have hcd := cond_err h2
    rw [show tellO ⟨3, 0, 0, c⟩ = [errV c] from rfl]
    by_cases hc : c.size = 0
    · rw [err_null hc, empty_of hc]
      rfl
    · have hk : (errV c).kind ≠ 1 := by rw [err_kind hc]; simp [kind]
      rw [trim_one hk]
      have hv : valR [errV c] 0 [] false = (errV c, false) := by
        rw [err_kind hc]; rfl
      have hr : rdR 3 [errV c] = (⟨3, 0, 0, c⟩, false) := by
        show (match condR (valR [errV c] 0 [] false).1 with | some c => _ | none => _ : O × Bool) = _
        rw [hv, hcd]
      unfold readO
      rw [hr]
      exact if_pos rfl
  · have hc : c = ⟨#[]⟩ := empty_of (by simpa using h3)
    simp at h4
    obtain ⟨rfl, rfl⟩ := h4
    subst hc
    exact if_pos rfl
  · have hc : c = ⟨#[]⟩ := empty_of (by simpa using h3)
    subst hc
    simp at h4
    obtain ⟨ha, hb⟩ := h4
    have ha' : a = 0 ∨ a = 1 := by omega
    have hb' : b = 0 ∨ b = 1 := by omega
    rcases ha' with rfl | rfl <;> rcases hb' with rfl | rfl <;> rfl
/-- What is put is got as it was. -/
theorem get_put {o : O} (h : mayO o = true) : getR (putO o) = some o := by
  by_cases h0 : o.k = 0
  · have e : putO o = nullV := if_pos h0
    rw [e]
    obtain ⟨k, a, b, c⟩ := o
    have h0 : k = 0 := h0
    subst h0
    unfold mayO at h
    simp [Bool.and_eq_true] at h
    obtain ⟨⟨_, h3⟩, rfl, rfl⟩ := h
    have hc : c = ⟨#[]⟩ := by first | exact h3 | exact empty_of h3
    rw [hc]
    rfl
  · have hp := put_ok h
    have e : putO o = .mk 25 0 ⟨#[]⟩ [.mk 6 (34 + o.k) ⟨#[]⟩ [], .mk 22 0 ⟨#[]⟩ (trim (tellO o))] := if_neg h0
    rw [e] at hp ⊢
    rw [get_fields (may_five h h0) hp called_five]
    exact read_tell h h0
/-- What is put is got by its name as well. -/
theorem get_named {o : O} (h : mayO o = true) (h0 : o.k ≠ 0) : getR (.mk 25 0 ⟨#[]⟩ [.mk 21 0 (oname o.k) [], .mk 22 0 ⟨#[]⟩ (trim (tellO o))]) = some o := by
  obtain ⟨h1, h2, h3⟩ := trim_ok h
  have h5 := may_five h h0
  rw [get_fields h5 (fields_ok (may_symb (name_ok h5)) rfl (by simp [items, itemsL]) (by simp [depth, depthL]) h1 (by omega) (by omega)) (called_five' h5)]
  exact read_tell h h0
/-- With a name that is none of theirs nothing is got. -/
theorem get_other {t : ByteArray} {y : V} (ht : ∀ j ∈ [1, 2, 3, 4, 5], t ≠ oname j) : getR (.mk 25 0 ⟨#[]⟩ [.mk 21 0 t [], y]) = none := by
  unfold getR
  rw [if_neg desc_ne, first_no fun j hj => ?_]
  cases hn : newR (.mk 25 0 ⟨#[]⟩ [.mk 21 0 t [], y]) (34 + j) (oname j) with
  | none => rfl
  | some ls =>
    obtain ⟨n, t', d, n', t'', e, _, hc⟩ := newR_some hn
    injection e with _ _ _ e
    injection e with e _
    rw [← e, called_name] at hc
    exact absurd (of_decide_eq_true hc) (ht j hj)
theorem most_le (k : Nat) : mostN k ≤ 3 := by
  unfold mostN
  by_cases h1 : k = 1
  · rw [if_pos h1]; omega
  · rw [if_neg h1]
    by_cases h3 : k = 3
    · rw [if_pos h3]; omega
    · rw [if_neg h3]
      by_cases h5 : k = 5
      · rw [if_pos h5]; omega
      · rw [if_neg h5]; omega
/-- With four fields nothing is got. -/
theorem get_long {d : V} {n' : Nat} {t' : ByteArray} {ls : List V} (hl : 4 ≤ ls.length) : getR (.mk 25 0 ⟨#[]⟩ [d, .mk 22 n' t' ls]) = none := by
  unfold getR
  rw [if_neg desc_ne]
  cases hf : firstR (.mk 25 0 ⟨#[]⟩ [d, .mk 22 n' t' ls]) [1, 2, 3, 4, 5] with
  | none => rfl
  | some p =>
    obtain ⟨k, us⟩ := p
    obtain ⟨n, t, d', n'', t'', e, _, _⟩ := newR_some (first_some hf).2
    injection e with _ _ _ e
    injection e with _ e
    injection e with e _
    injection e with _ _ _ e
    subst e
    refine if_neg fun h => ?_
    have := (done_zero.1 h).2
    have := most_le k
    omega
theorem read_kind {k : Nat} {ls : List V} : (rdR k ls).1.k = k := by
  unfold rdR
  by_cases h1 : k = 1
  · rw [if_pos h1]; exact h1.symm
  · rw [if_neg h1]
    by_cases h3 : k = 3
    · rw [if_pos h3]
      subst h3
      cases condR (valR ls 0 [] false).1 <;> rfl
    · rw [if_neg h3]
      by_cases h5 : k = 5
      · rw [if_pos h5]; exact h5.symm
      · rw [if_neg h5]
/-- What is called by a code is of that kind, if it is something. -/
theorem get_kind {k : Nat} {y : V} {o : O} (h : getR (.mk 25 0 ⟨#[]⟩ [.mk 6 (34 + k) ⟨#[]⟩ [], y]) = some o) : o.k = k := by
  unfold getR at h
  rw [if_neg desc_ne] at h
  cases hf : firstR (.mk 25 0 ⟨#[]⟩ [.mk 6 (34 + k) ⟨#[]⟩ [], y]) [1, 2, 3, 4, 5] with
  | none => rw [hf] at h; cases h
  | some p =>
    obtain ⟨k', us⟩ := p
    obtain ⟨n, t, d', n'', t'', e, _, hc⟩ := newR_some (first_some hf).2
    injection e with _ _ _ e
    injection e with e _
    rw [← e, called_code] at hc
    have hk : k = k' := by have := of_decide_eq_true hc; omega
    rw [hf] at h
    have h : readO k' us = some o := h
    unfold readO at h
    by_cases hd : doneN us (rdR k' us).2 (mostN k') = 0
    · rw [if_pos hd] at h
      injection h with h
      rw [← h, read_kind, hk]
    · rw [if_neg hd] at h; cases h
end Go.Proofs.YtohmnbefokhjpaaDoor.Oc
