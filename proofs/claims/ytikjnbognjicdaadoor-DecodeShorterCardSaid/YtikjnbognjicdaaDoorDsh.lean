/-
  What encode tells of what is decoded has no more bytes than that had. No Go in it.
-/
import Derived.Test.YtikjnbognjicdaaDoorDbk
namespace Go.Proofs.YtikjnbognjicdaaDoor.Dec
set_option maxRecDepth 100000
open Go.Proofs.YtikjnbognjicdaaDoor.Val V Go.Proofs.YtikjnbognjicdaaDoor.Utf Go.Proofs.YtikjnbognjicdaaDoor.Enc

theorem pick_le : ∀ (cs : List (Nat × Enc.Can)) (l : List Pl) (c : Nat) (f : Enc.Can), cs.Pairwise (fun x y => wid x.1 ≤ wid y.1) → (c, f) ∈ cs → l.all (can f) = true → wid (pick cs l) ≤ wid c
  | [], _, _, _, _, h, _ => by cases h
  | (c1, f1) :: cs, l, c, f, hs, h, ha => by
    rw [pick]
    by_cases h1 : l.all (can f1) = true
    · rw [if_pos h1]
      rcases List.mem_cons.1 h with e | h
      · simp only [Prod.mk.injEq] at e
        exact Nat.le_of_eq (by rw [e.1])
      · exact (List.pairwise_cons.1 hs).1 _ h
    · rw [if_neg h1]
      rcases List.mem_cons.1 h with e | h
      · simp only [Prod.mk.injEq] at e
        rw [e.2] at ha
        exact absurd ha h1
      · exact pick_le cs l c f (List.pairwise_cons.1 hs).2 h ha
theorem chs_up (k : Nat) : (chs k).Pairwise fun x y => wid x.1 ≤ wid y.1 := by
  by_cases h : k < 25
  · have : ∀ k < 25, (chs k).Pairwise fun x y => wid x.1 ≤ wid y.1 := by decide
    exact this k h
  · have e : chs k = [] := by
      unfold chs
      split <;> first | omega | rfl
    rw [e]
    exact List.Pairwise.nil
/-- Fewer bytes by a code of less width. -/
theorem dlay_le {k n re im c c' : Nat} {t : ByteArray} {ks : List Nat} (h : wid c' ≤ wid c) : (dlay k n t c' re im ks).length ≤ (dlay k n t c re im ks).length := by
  unfold dlay
  by_cases h0 : wid c' = 0
  · rw [if_pos h0]; exact Nat.zero_le _
  rw [if_neg h0, if_neg (by omega : ¬ wid c = 0)]
  (repeat' split) <;> (try simp only [List.length_append, be_length]) <;> omega
theorem dat_le {c c' : Nat} (h : wid c' ≤ wid c) (v : V) : (dat c' v).length ≤ (dat c v).length := by
  obtain ⟨k, n, t, ks⟩ := v
  exact dlay_le h

/-- The code by which a value without kids was told can tell it, by no more bytes. -/
theorem code_in : ∀ c < 256, kof c ≠ 0 → ((chs (kof c)).any fun x => x.1 == c) = true := by decide +kernel
theorem code_has {c : Nat} (hc : c < 256) (hk : kof c ≠ 0) : ∃ f, (c, f) ∈ chs (kof c) := by
  have := code_in c hc hk
  simp only [List.any_eq_true, beq_iff_eq] at this
  obtain ⟨⟨c', f⟩, h, e⟩ := this
  simp only at e
  subst e
  exact ⟨f, h⟩
theorem sg1_sgw (X : Nat) : sg1 (sgw X 1) = sgw X 1 := by
  unfold sg1 sgw
  simp
  split <;> split <;> omega
theorem data_size {c : Nat} {l d r : List Nat} (h : dataD c l = some (d, r)) : sw c + d.length + r.length = l.length ∧ (sw c = 0 → d.length = lg c) ∧ (sw c ≠ 0 → (∀ x ∈ l, x < 256) → d.length < 256 ^ sw c) := by
  unfold dataD at h
  by_cases h0 : sw c = 0
  · rw [if_pos h0] at h
    by_cases h1 : lg c ≤ l.length
    · rw [if_pos h1] at h
      injection h with h
      injection h with e1 e2
      subst e1 e2
      simp only [List.length_take, List.length_drop]
      exact ⟨by omega, fun _ => by omega, fun h => absurd h0 h⟩
    · rw [if_neg h1] at h; cases h
  · rw [if_neg h0] at h
    by_cases h1 : sw c ≤ l.length
    · rw [if_pos h1] at h
      by_cases h2 : tn (l.take (sw c)) ≤ (l.drop (sw c)).length
      · rw [if_pos h2] at h
        injection h with h
        injection h with e1 e2
        subst e1 e2
        have h3 := sw_le c
        simp only [List.length_take, List.length_drop] at h2 ⊢
        refine ⟨by omega, fun h => absurd h h0, fun _ hb => ?_⟩
        have := tn_lt256 (d := l.take (sw c)) (fun x hx => hb x (List.mem_of_mem_take hx)) (k := sw c) (by rw [List.length_take]; omega) (by omega)
        omega
      · rw [if_neg h2] at h; cases h
    · rw [if_neg h1] at h; cases h
theorem kof_leaf : ∀ c < 256, kof c ≠ 0 → kof c < 22 → (19 ≤ kof c ↔ sw c ≠ 0) := by decide +kernel
theorem leaf_can {c : Nat} {f : Enc.Can} {d : List Nat} (hc : c < 256) (hf : (c, f) ∈ chs (kof c)) (hk : 1 ≤ kof c ∧ kof c ≤ 21) (hd : ∀ x ∈ d, x < 256) (hl : sw c = 0 → d.length = lg c) (hs : sw c ≠ 0 → d.length < 256 ^ sw c) : can f (rawv (plainV c d)) = true := by
  have hm : c ∈ [64, 65, 66, 67, 68, 80, 81, 82, 83, 84, 85, 86, 96, 97, 112, 113, 114, 115, 116, 128, 129, 130, 131, 132, 148, 152, 160, 161, 163, 176, 177, 179] := by
    have : ∀ c < 256, 1 ≤ kof c ∧ kof c ≤ 21 → c ∈ [64, 65, 66, 67, 68, 80, 81, 82, 83, 84, 85, 86, 96, 97, 112, 113, 114, 115, 116, 128, 129, 130, 131, 132, 148, 152, 160, 161, 163, 176, 177, 179] := by decide +kernel
    exact this c hc hk
  clear hc hk
  simp only [List.mem_cons, List.not_mem_nil, or_false] at hm
  have hsb := sb_size d
  rcases hm with rfl | rfl | rfl | rfl | rfl | rfl | rfl | rfl | rfl | rfl | rfl | rfl | rfl | rfl | rfl | rfl | rfl | rfl | rfl | rfl | rfl | rfl | rfl | rfl | rfl | rfl | rfl | rfl | rfl | rfl | rfl | rfl <;>
    (simp [kof, kof2, chs] at hf) <;> subst hf <;> (try rfl)
  · have h0 : d = [] := List.eq_nil_of_length_eq_zero (hl rfl)
    subst h0; rfl
  · have h0 : d = [] := List.eq_nil_of_length_eq_zero (hl rfl)
    subst h0; rfl
  · have h0 : d = [] := List.eq_nil_of_length_eq_zero (hl rfl)
    subst h0; rfl
  · have h1 := tn_lt256 hd (k := 1) (hl rfl) (by omega)
    exact decide_eq_true (by show tn d ≤ 255; omega)
  · have h1 := tn_lt256 hd (k := 1) (hl rfl) (by omega)
    exact decide_eq_true (by show tn d ≤ 255; omega)
  · have h1 := tn_lt256 hd (k := 1) (hl rfl) (by omega)
    exact decide_eq_true (by show sgw (tn d) d.length = sg1 (sgw (tn d) d.length); rw [show d.length = 1 from hl rfl, sg1_sgw])
  · have h1 := tn_lt256 hd (k := 1) (hl rfl) (by omega)
    exact decide_eq_true (by show sgw (tn d) d.length = sg1 (sgw (tn d) d.length); rw [show d.length = 1 from hl rfl, sg1_sgw])
  · have h1 := hs (by decide)
    exact decide_eq_true (by show (sb d).size ≤ 255; rw [hsb]; simp [sw] at h1; omega)
  · have h1 := hs (by decide)
    exact decide_eq_true (by show (sb d).size ≤ 255; rw [hsb]; simp [sw] at h1; omega)
  · have h1 := hs (by decide)
    exact decide_eq_true (by show (sb d).size ≤ 255; rw [hsb]; simp [sw] at h1; omega)
theorem leaf_len {c : Nat} {f : Enc.Can} {d : List Nat} (hf : (c, f) ∈ chs (kof c)) (hk : 1 ≤ kof c ∧ kof c ≤ 21) (hl : sw c = 0 → d.length = lg c) (hkk : (plainV c d).kind = kof c) : (dat c (plainV c d)).length ≤ sw c + d.length := by
  obtain ⟨_, _, h1, h2, _⟩ := code_of (by omega) hf
  have htx := plain_text c d
  generalize plainV c d = v at hkk htx ⊢
  obtain ⟨k, n, t, ks⟩ := v
  simp only [V.kind] at hkk
  simp only [V.text] at htx
  simp only [dat, dlay]
  by_cases hw : wid c = 0
  · rw [if_pos hw]; exact Nat.zero_le _
  rw [if_neg hw]
  by_cases h15 : k < 15
  · rw [if_pos h15, be_length]
    have := h1 (by omega)
    have := hl this.1
    omega
  rw [if_neg h15]
  by_cases h19 : k < 19
  · rw [if_pos h19, tb_length]; omega
  · rw [if_neg h19, if_pos (by omega), List.length_append, be_length, tb_length]
    have := h2 (by omega)
    omega

theorem called_of : ∀ (ns : List V) (u : V), called (calledV ns u) = ns ++ called u
  | [], _ => rfl
  | x :: ns, u => by rw [calledV, called_desc, called_of ns u]; rfl
theorem core_of : ∀ (ns : List V) (u : V), core (calledV ns u) = core u
  | [], _ => rfl
  | x :: ns, u => by rw [calledV, core_desc, core_of ns u]
theorem called_u {ns : List V} {u : V} (h : u.kind ≠ 25) : called (calledV ns u) = ns ∧ core (calledV ns u) = u := by
  obtain ⟨k, n, t, ks⟩ := u
  have h : k ≠ 25 := h
  rw [called_of, core_of, called_not h, core_not h]
  exact ⟨List.append_nil _, rfl⟩
theorem loop_len {step : Nat → List Nat → Option (V × Nat × List Nat)} : ∀ (n it : Nat) (l : List Nat) (vs : List V) (it' : Nat) (r : List Nat), loopN step n it l = some (vs, it', r) → vs.length = n
  | 0, it, l, vs, it', r, h => by
    simp only [loopN, Option.some.injEq, Prod.mk.injEq] at h
    obtain ⟨rfl, _⟩ := h
    rfl
  | n + 1, it, l, vs, it', r, h => by
    rw [loopN] at h
    cases h1 : step it l with
    | none => rw [h1] at h; cases h
    | some p =>
      obtain ⟨v, it1, r1⟩ := p
      rw [h1] at h
      simp only at h
      cases h2 : loopN step n it1 r1 with
      | none => rw [h2] at h; cases h
      | some q =>
        obtain ⟨vs2, it2, r2⟩ := q
        rw [h2] at h
        simp only [Option.some.injEq, Prod.mk.injEq] at h
        obtain ⟨rfl, _⟩ := h
        rw [List.length_cons, loop_len n it1 r1 vs2 it2 r2 h2]

theorem plain_kind_of (c : Nat) (d : List Nat) : (plainV c d).kind = kof c := by
  unfold plainV
  (repeat' split) <;> simp only [V.kind] <;> omega
/-- A name has no fewer bytes than encode tells of it. -/
theorem name_len {l r : List Nat} {x : V} (h : nameD l = .ok (x, r)) (hl : ∀ y ∈ l, y < 256) (hg : Enc.Good x) : (lay (plan x)).length + r.length ≤ l.length := by
  cases l with
  | nil => cases h
  | cons c l =>
    simp only [nameD] at h
    by_cases hk : kof c = 6 ∨ kof c = 21
    · rw [if_pos hk] at h
      cases hd : dataD c l with
      | none => rw [hd] at h; cases h
      | some q =>
        obtain ⟨d, q⟩ := q
        rw [hd] at h
        simp only [Except.ok.injEq, Prod.mk.injEq] at h
        obtain ⟨rfl, rfl⟩ := h
        obtain ⟨s1, s2, s3⟩ := data_size hd
        have hb := data_byte hd fun y hy => hl y (by simp [hy])
        have hc := hl c (by simp)
        obtain ⟨f, hf⟩ := code_has hc (by omega)
        have hcan := leaf_can hc hf (by omega) hb.1 s2 (fun h0 => s3 h0 fun y hy => hl y (by simp [hy]))
        have hkk := plain_kind_of c d
        have hlen := leaf_len hf (by omega) s2 hkk
        have hple := pick_le (chs (kof c)) [rawv (plainV c d)] c f (chs_up _) hf (by simp [hcan])
        have hdl := dat_le hple (plainV c d)
        have hlay : lay (plan (plainV c d)) = pick (chs (kof c)) [rawv (plainV c d)] :: dat (pick (chs (kof c)) [rawv (plainV c d)]) (plainV c d) := by
          generalize plainV c d = v at hkk ⊢
          obtain ⟨k, n, t, ks⟩ := v
          simp only [V.kind] at hkk
          rw [lay_core (by omega), hkk]
        rw [hlay]
        simp only [List.length_cons]
        omega
    · rw [if_neg hk] at h; cases h
theorem head_len : ∀ (N : Nat) (l : List Nat) (ns : List V) (c : Nat) (r : List Nat), headN N l = .ok (ns, c, r) → (∀ y ∈ l, y < 256) → GoodL ns → (layN (planL ns)).length + 1 + r.length ≤ l.length
  | 0, _, _, _, _, h, _, _ => by simp [headN] at h
  | _ + 1, [], _, _, _, h, _, _ => by simp [headN] at h
  | N + 1, c :: l, ns, c', r, h, hl, hg => by
    rw [headN] at h
    by_cases hc : c = 0
    · rw [if_pos hc] at h
      cases hn : nameD l with
      | error s => rw [hn] at h; cases h
      | ok p =>
        obtain ⟨v, r1⟩ := p
        rw [hn] at h
        simp only at h
        cases h2 : headN N r1 with
        | error s => rw [h2] at h; cases h
        | ok p =>
          obtain ⟨ns2, c2, r2⟩ := p
          rw [h2] at h
          simp only [Except.ok.injEq, Prod.mk.injEq] at h
          obtain ⟨rfl, rfl, rfl⟩ := h
          have hl' : ∀ y ∈ l, y < 256 := fun y hy => hl y (by simp [hy])
          have h3 := name_len hn hl' hg.cons.1
          have h4 := head_len N r1 _ _ _ h2 (name_fl hn hl').2.1 hg.cons.2
          simp only [planL, layN, List.length_cons, List.length_append]
          omega
    · rw [if_neg hc] at h
      split at h
      · cases h
      · simp only [Except.ok.injEq, Prod.mk.injEq] at h
        obtain ⟨rfl, rfl, rfl⟩ := h
        simp [planL, layN]
        omega

/-- What is told by a code, and by how many bytes that code tells it. -/
def ShT (F : Nat) : Prop := ∀ (it : Nat) (ns : List V) (c : Nat) (d : List Nat) (v : V) (it' : Nat) (f : Enc.Can), toldN F it ns c d = some (v, it') → (∀ x ∈ d, x < 256) → c < 256 → (c, f) ∈ chs (kof c) → (sw c = 0 → d.length = lg c) → (sw c ≠ 0 → d.length < 256 ^ sw c) → Enc.Good v → depth v ≤ 16 →
  ∃ u, v = calledV ns u ∧ u.kind = kof c ∧ can f (rawv u) = true ∧ (dat c u).length ≤ sw c + d.length
theorem kof_25 (c : Nat) : kof c ≠ 25 := by have := kof_le c; omega
theorem stepV_sh {F : Nat} (h : ShT F) {it it' : Nat} {l r : List Nat} {v : V} (hs : stepV (toldN F) it l = some (v, it', r)) (hl : ∀ x ∈ l, x < 256) (hg : Enc.Good v) (hd : depth v ≤ 16) : (lay (plan v)).length + r.length ≤ l.length := by
  unfold stepV at hs
  cases hh : headD l with
  | error s => rw [hh] at hs; cases hs
  | ok p =>
    obtain ⟨ns, c, r1⟩ := p
    obtain ⟨_, hc, hrb, _⟩ := head_fl _ _ _ _ _ hh hl
    have hk := (headN_lt _ _ _ _ _ hh).2.2
    rw [hh] at hs
    simp only at hs
    cases hdd : dataD c r1 with
    | none => rw [hdd] at hs; cases hs
    | some q =>
      obtain ⟨d, r2⟩ := q
      obtain ⟨s1, s2, s3⟩ := data_size hdd
      have hb := data_byte hdd hrb
      rw [hdd] at hs
      simp only at hs
      cases ht : toldN F it (ns.take 16) c d with
      | none => rw [ht] at hs; cases hs
      | some q =>
        obtain ⟨v2, it2⟩ := q
        rw [ht] at hs
        simp only [Option.some.injEq, Prod.mk.injEq] at hs
        obtain ⟨rfl, rfl, rfl⟩ := hs
        obtain ⟨f, hf⟩ := code_has hc hk
        obtain ⟨u, rfl, hu, hcan, hlen⟩ := h it _ c d _ _ f ht hb.1 hc hf s2 (fun h0 => s3 h0 hrb) hg hd
        obtain ⟨e1, e2⟩ := called_u (ns := ns.take 16) (u := u) (by rw [hu]; exact kof_25 c)
        have hcd := called_depth hg.1
        have hcp := depth_pos (core (calledV (ns.take 16) u))
        rw [e1, List.length_take] at hcd
        have htk : ns.take 16 = ns := List.take_of_length_le (by omega)
        have hgn := hg.called
        rw [lay_split hg.1, e1, e2]
        rw [e1, htk] at hgn
        rw [htk]
        have h1 := head_len _ _ _ _ _ hh hl hgn
        have hko := kcode_one hg.1
        rw [e2, hu] at hko
        have hple := pick_le (chs (kof c)) [rawv u] c f (chs_up _) hf (by simp [hcan])
        rw [← hko, htk] at hple
        have hdl := dat_le hple u
        simp only [List.length_append, List.length_cons]
        omega
theorem stepV_bytes {F it it' : Nat} {l r : List Nat} {v : V} (hs : stepV (toldN F) it l = some (v, it', r)) (hl : ∀ x ∈ l, x < 256) : ∀ x ∈ r, x < 256 := by
  unfold stepV at hs
  cases hh : headD l with
  | error s => rw [hh] at hs; cases hs
  | ok p =>
    obtain ⟨ns, c, r1⟩ := p
    obtain ⟨_, hc, hrb, _⟩ := head_fl _ _ _ _ _ hh hl
    rw [hh] at hs
    simp only at hs
    cases hdd : dataD c r1 with
    | none => rw [hdd] at hs; cases hs
    | some q =>
      obtain ⟨d, r2⟩ := q
      have hb := data_byte hdd hrb
      rw [hdd] at hs
      simp only at hs
      cases ht : toldN F it (ns.take 16) c d with
      | none => rw [ht] at hs; cases hs
      | some q =>
        rw [ht] at hs
        simp only [Option.some.injEq, Prod.mk.injEq] at hs
        obtain ⟨_, _, rfl⟩ := hs
        exact hb.2.1
theorem loop_sh {F : Nat} (h : ShT F) : ∀ (n it : Nat) (l : List Nat) (vs : List V) (it' : Nat) (r : List Nat), loopN (stepV (toldN F)) n it l = some (vs, it', r) → (∀ x ∈ l, x < 256) → GoodL vs → depthL vs ≤ 16 → (layK (planL vs)).length + r.length ≤ l.length
  | 0, it, l, vs, it', r, hs, _, _, _ => by
    simp only [loopN, Option.some.injEq, Prod.mk.injEq] at hs
    obtain ⟨rfl, _, rfl⟩ := hs
    simp [planL, layK]
  | n + 1, it, l, vs, it', r, hs, hl, hg, hd => by
    rw [loopN] at hs
    cases h1 : stepV (toldN F) it l with
    | none => rw [h1] at hs; cases hs
    | some p =>
      obtain ⟨v, it1, r1⟩ := p
      rw [h1] at hs
      simp only at hs
      cases h2 : loopN (stepV (toldN F)) n it1 r1 with
      | none => rw [h2] at hs; cases hs
      | some q =>
        obtain ⟨vs2, it2, r2⟩ := q
        rw [h2] at hs
        simp only [Option.some.injEq, Prod.mk.injEq] at hs
        obtain ⟨rfl, rfl, rfl⟩ := hs
        simp only [depthL] at hd
        have h3 := stepV_sh h h1 hl hg.cons.1 (by omega)
        have h4 := loop_sh h n it1 r1 vs2 it2 r2 h2 (stepV_bytes h1 hl) hg.cons.2 (by omega)
        simp only [planL, layK, List.length_append]
        omega
theorem loopA_sh {F : Nat} (h : ShT F) {ns : List V} {c : Nat} {f : Enc.Can} (hc : c < 256) (hf : (c, f) ∈ chs (kof c)) : ∀ (n it : Nat) (l : List Nat) (vs : List V) (it' : Nat) (r : List Nat), loopN (stepA (toldN F) ns c) n it l = some (vs, it', r) → (∀ x ∈ l, x < 256) → GoodL vs → depthL vs ≤ 16 →
    (datL c vs).length + r.length ≤ l.length ∧ ∀ e ∈ vs, called e = ns ∧ (core e).kind = kof c ∧ can f (plan e) = true
  | 0, it, l, vs, it', r, hs, _, _, _ => by
    simp only [loopN, Option.some.injEq, Prod.mk.injEq] at hs
    obtain ⟨rfl, _, rfl⟩ := hs
    simp [datL]
  | n + 1, it, l, vs, it', r, hs, hl, hg, hd => by
    rw [loopN] at hs
    cases h1 : stepA (toldN F) ns c it l with
    | none => rw [h1] at hs; cases hs
    | some p =>
      obtain ⟨v, it1, r1⟩ := p
      rw [h1] at hs
      simp only at hs
      cases h2 : loopN (stepA (toldN F) ns c) n it1 r1 with
      | none => rw [h2] at hs; cases hs
      | some q =>
        obtain ⟨vs2, it2, r2⟩ := q
        rw [h2] at hs
        simp only [Option.some.injEq, Prod.mk.injEq] at hs
        obtain ⟨rfl, rfl, rfl⟩ := hs
        simp only [depthL] at hd
        unfold stepA at h1
        cases hdd : dataD c l with
        | none => rw [hdd] at h1; cases h1
        | some q =>
          obtain ⟨d, r3⟩ := q
          obtain ⟨s1, s2, s3⟩ := data_size hdd
          have hb := data_byte hdd hl
          rw [hdd] at h1
          simp only at h1
          cases ht : toldN F it ns c d with
          | none => rw [ht] at h1; cases h1
          | some q =>
            obtain ⟨v3, it3⟩ := q
            rw [ht] at h1
            simp only [Option.some.injEq, Prod.mk.injEq] at h1
            obtain ⟨rfl, rfl, rfl⟩ := h1
            have hgv := hg.cons.1
            obtain ⟨u, rfl, hu, hcan, hlen⟩ := h it _ c d _ _ f ht hb.1 hc hf s2 (fun h0 => s3 h0 hl) hgv (by omega)
            obtain ⟨e1, e2⟩ := called_u (ns := ns) (u := u) (by rw [hu]; exact kof_25 c)
            obtain ⟨i1, i2⟩ := loopA_sh h hc hf n it3 r3 vs2 it2 r2 h2 hb.2.1 hg.cons.2 (by omega)
            refine ⟨by simp only [datL, e2, List.length_append]; omega, fun e he => ?_⟩
            rcases List.mem_cons.1 he with rfl | he
            · exact ⟨e1, by rw [e2, hu], by rw [can_core f _ hgv.1, e2]; exact hcan⟩
            · exact i2 e he
theorem datL_le {c c' : Nat} (h : wid c' ≤ wid c) : ∀ l : List V, (datL c' l).length ≤ (datL c l).length
  | [] => Nat.le_refl _
  | v :: l => by
    have h1 := dat_le h (core v)
    have h2 := datL_le h l
    simp only [datL, List.length_append]
    omega
theorem told_sh (F : Nat) (h : ShT F) : ShT (F + 1) := by
  intro it ns c d v it' f ht hdb hc hf hl hs hg hd
  rw [told_succ] at ht
  by_cases hm : 1024 < it + 1 + 2 * ns.length
  · rw [if_pos hm] at ht; cases ht
  rw [if_neg hm] at ht
  unfold aloneD at ht
  have hk0 : kof c ≠ 0 := fun e => by rw [e] at hf; simp [chs] at hf
  have hk24 := kof_le c
  by_cases hk : kof c < 22
  · rw [if_pos hk] at ht
    simp only [Option.some.injEq, Prod.mk.injEq] at ht
    obtain ⟨rfl, rfl⟩ := ht
    have hkk := plain_kind_of c d
    exact ⟨_, rfl, hkk, leaf_can hc hf (by omega) hdb hl hs, leaf_len hf (by omega) hl hkk⟩
  · rw [if_neg hk] at ht
    cases hK : kidsD (toldN F) c (it + 1 + 2 * ns.length) d with
    | none => rw [hK] at ht; cases ht
    | some p =>
      obtain ⟨vs, it2⟩ := p
      rw [hK] at ht
      simp only [Option.some.injEq, Prod.mk.injEq] at ht
      obtain ⟨rfl, rfl⟩ := ht
      obtain ⟨e1, e2⟩ := called_u (ns := ns) (u := .mk (kof c) 0 ⟨#[]⟩ vs) (by exact kof_25 c)
      have hgu := hg.core
      rw [e2] at hgu
      have hdu : depth (.mk (kof c) 0 ⟨#[]⟩ vs) ≤ 16 := by
        have := called_depth hg.1
        rw [e1, e2] at this
        omega
      simp only [depth] at hdu
      have hgk := hgu.kids
      obtain ⟨hw, hcnt, hcase⟩ := kids_some hK
      obtain ⟨_, _, _, hcs, _⟩ := code_of hk24 hf
      obtain ⟨hsw, hlg⟩ := hcs (by omega)
      have hrest : (d.drop (sw c)).length + sw c = d.length := by rw [List.length_drop]; omega
      have hrb : ∀ x ∈ d.drop (sw c), x < 256 := fun x hx => hdb x (List.mem_of_mem_drop hx)
      -- how long the parts are
      have hin : vs.length = tn (d.take (sw c)) ∧ (layK (kp (kof c) vs)).length ≤ (d.drop (sw c)).length ∨ (vs = [] ∧ wid c = 0) := by
        rcases hcase with ⟨h24, ns', c', r, hH, hloop⟩ | ⟨h24, hloop⟩
        · refine .inl ⟨loop_len _ _ _ _ _ _ hloop, ?_⟩
          have hhl := (headN_lt _ _ _ _ _ hH)
          obtain ⟨_, hc', hrb', _⟩ := head_fl _ _ _ _ _ hH hrb
          rw [h24]
          simp only [kp, if_true]
          cases vs with
          | nil =>
            have : (layK (alikeP (planL []))).length = 1 := by rfl
            omega
          | cons a r' =>
            obtain ⟨f', hf'⟩ := code_has hc' hhl.2.2
            obtain ⟨i1, i2⟩ := loopA_sh h hc' hf' _ _ _ _ _ _ hloop hrb' hgk (by omega)
            obtain ⟨a1, a2, a3⟩ := i2 a (by simp)
            have hga := hgk.cons.1
            have hcd := called_depth hga.1
            have hcp := depth_pos (core a)
            simp only [depthL] at hdu
            rw [a1, List.length_take] at hcd
            have htk : ns'.take 16 = ns' := List.take_of_length_le (by omega)
            have hgn := hga.called
            rw [a1, htk] at hgn
            have h1 := head_len _ _ _ _ _ hH hrb hgn
            rw [layK_alike a r' hgk.1, a1, htk]
            have hkc : kcode (a :: r') = pick (chs (kof c')) (planL (a :: r')) := by rw [kcode_pick hga.1, a2]
            have hple := pick_le (chs (kof c')) (planL (a :: r')) c' f' (chs_up _) hf' (by
              rw [planL_map]
              simp only [List.all_map, List.all_eq_true]
              intro e he
              exact (i2 e he).2.2)
            rw [← hkc] at hple
            have h2 := datL_le hple (a :: r')
            simp only [List.length_append, List.length_cons] at i1 ⊢
            simp at i1
            omega
        · refine .inl ⟨loop_len _ _ _ _ _ _ hloop, ?_⟩
          simp only [kp, if_neg h24]
          have := loop_sh h _ _ _ _ _ _ hloop hrb hgk (by omega)
          simp at this ⊢
          omega
      obtain ⟨hvl, hkl⟩ : vs.length = tn (d.take (sw c)) ∧ (layK (kp (kof c) vs)).length ≤ (d.drop (sw c)).length := by
        rcases hin with hin | ⟨rfl, hw0⟩
        · exact hin
        · rcases hcase with ⟨h24, ns', c', r, hH, hloop⟩ | ⟨h24, hloop⟩
          · have := loop_len _ _ _ _ _ _ hloop
            have h24' := code_kids (by omega) hf
            rcases h24' with ⟨_, _, e⟩ | ⟨e, _⟩ | ⟨e, _⟩ <;> omega
          · exact ⟨loop_len _ _ _ _ _ _ hloop, by simp [kp, h24, planL, layK]⟩
      have hins := ins_len hgu
      have hdat : (dat c (.mk (kof c) 0 ⟨#[]⟩ vs)).length ≤ sw c + d.length := by
        simp only [dat, dlay]
        by_cases hw0 : wid c = 0
        · rw [if_pos hw0]; exact Nat.zero_le _
        · rw [if_neg hw0, if_neg (by omega), if_neg (by omega), if_neg (by omega)]
          simp only [List.length_append, be_length]
          omega
      refine ⟨_, rfl, rfl, ?_, hdat⟩
      have htn := tn_lt256 (d := d.take (sw c)) (fun x hx => hdb x (List.mem_of_mem_take hx)) (k := sw c) (by rw [List.length_take]; omega) (by have := sw_le c; omega)
      rcases code_kids (by omega) hf with ⟨hw0, rfl, _⟩ | ⟨hw1, rfl⟩ | ⟨hw4, rfl⟩
      · rw [can_none]
        have h0 : sw c = 0 := by omega
        rw [h0] at hvl
        exact decide_eq_true (by rw [hvl]; simp [tn, Dec.nb])
      · rw [can_small]
        have h1 : sw c = 1 := by omega
        have h2 := hs (by omega)
        rw [h1] at h2 htn hvl
        have e256 : 256 ^ 1 = 256 := rfl
        simp only [Bool.and_eq_true, decide_eq_true_eq]
        omega
      · rfl
theorem sh_all : ∀ F : Nat, ShT F
  | 0 => fun _ _ _ _ _ _ _ h => by simp [toldN] at h
  | F + 1 => told_sh F (sh_all F)
/-- What encode tells of what is read has no more bytes than were read. -/
theorem val_sh {b r : List Nat} {v : V} {it : Nat} (h : valD (toldN b.length) 0 b = .ok (v, it, r)) (hb : ∀ x ∈ b, x < 256) (hg : Enc.Good v) (hok : okB v = true) : (lay (plan v)).length + r.length ≤ b.length := by
  unfold okB at hok
  simp only [Bool.and_eq_true, decide_eq_true_eq] at hok
  exact stepV_sh (sh_all b.length) (by rw [step_val, h]) hb hg hok.1.2
end Go.Proofs.YtikjnbognjicdaaDoor.Dec
