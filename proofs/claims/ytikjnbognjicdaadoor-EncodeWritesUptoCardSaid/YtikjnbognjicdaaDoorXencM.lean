/-
  How long a plan says that it is, and how many bytes it lays: one and the same; which code is the first that can tell all. Plain mathematics, of values that may be.
-/
import Derived.Test.YtikjnbognjicdaaDoorInj2
namespace Go.Proofs.YtikjnbognjicdaaDoor.Enc
set_option maxRecDepth 100000
open Go.Proofs.YtikjnbognjicdaaDoor.Val V Pl

theorem bulkL_mem {l : List V} {v : V} (h : v ∈ l) : bulk v ≤ bulkL l := by
  induction l with
  | nil => cases h
  | cons x r ih =>
    simp only [bulkL]
    rcases List.mem_cons.1 h with rfl | h
    · omega
    · have := ih h; omega
theorem GoodL.mem {l : List V} {v : V} (hl : GoodL l) (h : v ∈ l) : Good v := by
  induction l with
  | nil => cases h
  | cons x r ih =>
    rcases List.mem_cons.1 h with rfl | h
    · exact hl.cons.1
    · exact ih hl.cons.2 h
theorem dlong_dlay {k n : Nat} {t : ByteArray} {c re im : Nat} {ks : List Nat} (h1 : 15 ≤ k → k < 19 → wid c ≠ 0 → t.size = wid c) (hre : re = ks.length) : dlong k t c re = (dlay k n t c re im ks).length := by
  unfold dlong dlay
  by_cases h0 : wid c = 0
  · simp [h0]
  rw [if_neg h0, if_neg h0]
  by_cases ha : k < 15
  · rw [if_pos (by omega), if_pos ha, be_length]
  rw [if_neg ha]
  by_cases hb : k < 19
  · rw [if_pos hb, if_pos hb, tb_length, h1 (by omega) hb h0]
  rw [if_neg hb, if_neg hb]
  by_cases hc : k ≤ 21
  · rw [if_pos hc, if_pos hc, List.length_append, be_length, tb_length]
  · rw [if_neg hc, if_neg hc, List.length_append, List.length_append, be_length, be_length, hre]; omega
theorem text_wid {k c : Nat} {f : Can} {t : ByteArray} (hk : 15 ≤ k ∧ k ≤ 18) (h : (c, f) ∈ chs k) (ht : textB k t = true) : t.size = wid c := by
  have : k = 15 ∨ k = 16 ∨ k = 17 ∨ k = 18 := by omega
  rcases this with rfl | rfl | rfl | rfl <;> simp only [chs, List.mem_cons, Prod.mk.injEq, List.not_mem_nil, or_false] at h <;> obtain ⟨rfl, rfl⟩ := h <;> simp [textB] at ht <;> rw [ht] <;> decide

def Sz (v : V) : Prop := long (plan v) = (lay (plan v)).length ∧ ∀ c f, (c, f) ∈ chs (core v).kind → ∀ b, long (setc c b (plan v)) = (lay (setc c b (plan v))).length
theorem szN : ∀ l : List V, (∀ v ∈ l, Sz v) → longN (planL l) = (layN (planL l)).length
  | [], _ => rfl
  | v :: r, h => by
    have h1 := (h v (by simp)).1
    have h2 := szN r fun x hx => h x (by simp [hx])
    simp only [planL, longN, layN, List.length_cons, List.length_append]
    omega
theorem szK : ∀ l : List V, (∀ v ∈ l, Sz v) → longK (planL l) = (layK (planL l)).length
  | [], _ => rfl
  | v :: r, h => by
    have h1 := (h v (by simp)).1
    have h2 := szK r fun x hx => h x (by simp [hx])
    simp only [planL, longK, layK, List.length_append]
    omega
theorem szB (c : Nat) (f : Can) : ∀ l : List V, (∀ v ∈ l, Sz v) → (∀ v ∈ l, (c, f) ∈ chs (core v).kind) → longK ((planL l).map (setc c true)) = (layK ((planL l).map (setc c true))).length
  | [], _, _ => rfl
  | v :: r, h, hc => by
    have h1 := (h v (by simp)).2 c f (hc v (by simp)) true
    have h2 := szB c f r (fun x hx => h x (by simp [hx])) (fun x hx => hc x (by simp [hx]))
    simp only [planL, List.map_cons, longK, layK, List.length_append]
    omega
theorem kp_sz {k n : Nat} {t : ByteArray} {ks : List V} (hm : mayB (.mk k n t ks) = true) (h : ∀ v ∈ ks, Sz v) : longK (kp k ks) = (layK (kp k ks)).length := by
  unfold kp
  by_cases hk : k = 24
  · rw [if_pos hk]
    subst hk
    cases ks with
    | nil => decide
    | cons a r =>
      obtain ⟨f, hf, _, _, hall⟩ := arr_code hm
      have e : alikeP (planL (a :: r)) = setc (kcode (a :: r)) false (plan a) :: (planL r).map (setc (kcode (a :: r)) true) := rfl
      have h1 := (h a (by simp)).2 _ f hf false
      have h2 := szB _ f r (fun x hx => h x (by simp [hx])) fun x hx => by rw [(hall x (by simp [hx])).1]; exact hf
      rw [e, longK, layK, List.length_append]
      omega
  · rw [if_neg hk]
    exact szK ks h
theorem good_sz_of (N : Nat) : ∀ v : V, bulk v ≤ N → Good v → Sz v := by
  induction N with
  | zero => intro v hN; have := bulk_pos v; omega
  | succ N ih =>
    intro v hN hg
    have hcb := core_bulk v hg.1
    have hcg := hg.core
    have hck := core_kind v hg.1
    have hcn := core_ne v hg.1
    have hsp := plan_split v hg.1
    have hnm : longN (planL (called v)) = (layN (planL (called v))).length := szN _ fun x hx => ih x (by have := bulkL_mem hx; have := bulk_pos (core v); omega) (hg.called.mem hx)
    unfold Sz
    obtain ⟨k, n, t, ks⟩ : ∃ x, x = core v := ⟨_, rfl⟩
    revert hcb hcg hck hcn hsp
    generalize core v = w
    intro hcb hcg hck hcn hsp
    obtain ⟨k, n, t, ks⟩ := w
    simp only [V.kind] at hck hcn
    have hks : ∀ x ∈ ks, Sz x := fun x hx => ih x (by have := bulkL_mem hx; simp only [bulk] at hcb; omega) (hcg.kids.mem hx)
    have hkp := kp_sz hcg.1 hks
    have hpl : plan v = .mk (planL (called v)) k n t (first [raw [] k n t ks.length (kp k ks)]) false (kp k ks) (longK (kp k ks)) ks.length := by
      rw [hsp, plan_core n t ks hcn]
      simp only [fin, addN, List.append_nil]
      rfl
    have key : ∀ c f, (c, f) ∈ chs k → ∀ b, long (.mk (planL (called v)) k n t c b (kp k ks) (longK (kp k ks)) ks.length) = (lay (.mk (planL (called v)) k n t c b (kp k ks) (longK (kp k ks)) ks.length)).length := fun c f hc b => by
      have hd := dlong_dlay (k := k) (n := n) (t := t) (c := c) (re := longK (kp k ks)) (im := ks.length) (fun h15 h19 _ => text_wid ⟨h15, by omega⟩ hc (aloneT ⟨h15, by omega⟩ hcg.1).2.2) hkp
      simp only [long, lay]
      cases b
      · simp only [Bool.false_eq_true, if_false, List.length_append, List.length_cons]
        omega
      · simp only [if_true]
        exact hd
    rw [hpl]
    refine ⟨?_, fun c f hc b => key c f hc b⟩
    obtain ⟨f, hf, _⟩ := pick_all hck.1 hck.2 [raw [] k n t ks.length (kp k ks)]
    exact key _ f hf false
theorem good_sz {v : V} (h : Good v) : Sz v := good_sz_of _ v (Nat.le_refl _) h
/-- What stands in a list, a map, an array is as long as it is told to be. -/
theorem ins_len {k n : Nat} {t : ByteArray} {ks : List V} (h : Good (.mk k n t ks)) : longK (kp k ks) = (layK (kp k ks)).length := kp_sz h.1 fun _ hx => good_sz (h.kids.mem hx)

theorem pick_hit {cs : List (Nat × Can)} {ps : List Pl} {i c : Nat} {f : Can} (h : cs[i]? = some (c, f)) (ha : ps.all (can f) = true) : pick (cs.drop i) ps = c := by
  obtain ⟨hi, e⟩ := List.getElem?_eq_some_iff.1 h
  rw [List.drop_eq_getElem_cons hi, e]
  simp [pick, ha]
theorem pick_miss {cs : List (Nat × Can)} {ps : List Pl} {i c : Nat} {f : Can} (h : cs[i]? = some (c, f)) (ha : ps.all (can f) = false) : pick (cs.drop i) ps = pick (cs.drop (i + 1)) ps := by
  obtain ⟨hi, e⟩ := List.getElem?_eq_some_iff.1 h
  rw [List.drop_eq_getElem_cons hi, e]
  simp [pick, ha]
theorem kcode_pick {a : V} {r : List V} (h : mayB a = true) : kcode (a :: r) = pick (chs (core a).kind) (planL (a :: r)) := by
  rw [← (plan_kind a h).1]; rfl
theorem all_core (f : Can) : ∀ l : List V, mayL l = true → (planL l).all (can f) = l.all fun v => can f (rawv (core v))
  | [], _ => rfl
  | v :: r, h => by
    simp only [mayL, Bool.and_eq_true] at h
    simp only [planL, List.all_cons, can_core f v h.1, all_core f r h.2]
/-- The code of one value. -/
theorem kcode_one {v : V} (h : mayB v = true) : kcode [v] = pick (chs (core v).kind) [rawv (core v)] := by
  rw [kcode_pick h]
  have : ∀ cs : List (Nat × Can), pick cs (planL [v]) = pick cs [rawv (core v)] := fun cs => by
    induction cs with
    | nil => rfl
    | cons x r ih => simp only [pick, planL, List.all_cons, List.all_nil, can_core x.2 v h] at ih ⊢; rw [ih]; rfl
  exact this _
/-- A value's bytes: its constructor, of it alone, and its data. -/
theorem lay_split {v : V} (h : mayB v = true) : lay (plan v) = layN (planL (called v)) ++ (kcode [v] :: dat (kcode [v]) (core v)) := by
  have h1 := setc_whole (kcode [v]) v h
  rw [← h1]
  have hb := plan_bare v h
  have : setc (kcode [v]) false (plan v) = plan v := by
    have hf : (plan v).code = kcode [v] := by
      rw [kcode_one h, plan_split v h]
      have hn := core_ne v h
      revert hn
      generalize core v = w
      intro hn
      obtain ⟨k, n, t, ks⟩ := w
      simp only [V.kind] at hn
      rw [plan_core n t ks hn]
      rfl
    revert hb hf
    generalize plan v = p
    intro hb hf
    cases p
    simp only [Pl.bare, Pl.code] at hb hf
    simp only [setc, hb, hf]
  rw [this]
end Go.Proofs.YtikjnbognjicdaaDoor.Enc
