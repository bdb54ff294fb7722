/-
  What encode tells is told back, part by part: numbers, texts, codes. No Go in it.
  What encode tells of a value is told back as it, with anything behind it. No Go in it.
-/
import Derived.Test.YtikjnbognjicdaaDoorDwk
import Derived.Test.YtikjnbognjicdaaDoorXencM
namespace Go.Proofs.YtikjnbognjicdaaDoor.Dec
set_option maxRecDepth 100000
open Go.Proofs.YtikjnbognjicdaaDoor.Val V Go.Proofs.YtikjnbognjicdaaDoor.Utf Go.Proofs.YtikjnbognjicdaaDoor.Enc

theorem nb_cons (a : Nat) (l : List Nat) : Dec.nb (a :: l) = a * 256 ^ l.length + Dec.nb l := by
  have h : ∀ (l : List Nat) (x : Nat), l.foldl (fun x o => x * 256 + o) x = x * 256 ^ l.length + Dec.nb l := by
    intro l
    induction l with
    | nil => intro x; simp [Dec.nb]
    | cons c l ih =>
      intro x
      simp only [Dec.nb, List.foldl_cons, List.length_cons] at ih ⊢
      rw [ih, ih (0 * 256 + c), Nat.zero_mul, Nat.zero_add, Nat.pow_succ, Nat.add_mul, Nat.mul_assoc, Nat.mul_comm 256]
      omega
  have := h l a
  simp only [Dec.nb, List.foldl_cons] at this ⊢
  rw [Nat.zero_mul, Nat.zero_add]
  exact this
theorem nb_be (X : Nat) : ∀ k, Dec.nb (be X k) = X % 256 ^ k
  | 0 => by simp [be, Dec.nb, Nat.mod_one]
  | k + 1 => by
    rw [be, nb_cons, nb_be X k, be_length, Nat.mod_pow_succ, Nat.mul_comm]
    omega
theorem tn_be (X k : Nat) (h : k ≤ 8) : tn (be X k) = X % 256 ^ k := by
  unfold tn
  rw [be_length, if_pos h, nb_be]
theorem sb_tb (t : ByteArray) : sb (tb t) = t := by
  obtain ⟨a⟩ := t
  simp only [sb, tb, List.map_map]
  congr 1
  have : (a.toList.map (UInt8.ofNat ∘ UInt8.toNat)) = a.toList := by
    conv => rhs; rw [← List.map_id a.toList]
    apply List.map_congr_left
    intro x _
    simp
  rw [this]
theorem code_facts : ((List.range 25).all fun k => (chs k).all fun x => decide (kof x.1 = k) && decide (x.1 < 256) && (decide (19 ≤ k) || decide (sw x.1 = 0 ∧ lg x.1 = wid x.1)) && (decide (k < 19) || decide (sw x.1 = wid x.1 ∧ lg x.1 = 0)) && decide (wid x.1 ≤ 16) && (decide (15 ≤ k) || decide (wid x.1 ≤ 8))) = true := by decide +kernel
theorem code_of {k c : Nat} {f : Enc.Can} (hk : k ≤ 24) (h : (c, f) ∈ chs k) : kof c = k ∧ c < 256 ∧ (k < 19 → sw c = 0 ∧ lg c = wid c) ∧ (19 ≤ k → sw c = wid c ∧ lg c = 0) ∧ (k < 15 → wid c ≤ 8) := by
  have h1 := List.all_eq_true.1 code_facts k (by simp; omega)
  have h2 := List.all_eq_true.1 h1 (c, f) h
  simp only [Bool.and_eq_true, Bool.or_eq_true, decide_eq_true_eq] at h2
  obtain ⟨⟨⟨⟨⟨a1, a2⟩, a3⟩, a4⟩, a5⟩, a6⟩ := h2
  exact ⟨a1, a2, fun h => a3.resolve_left (by omega), fun h => a4.resolve_left (by omega), fun h => a6.resolve_left (by omega)⟩
/-- A number's data tell it. -/
theorem num_back {k c n : Nat} {f : Enc.Can} (hk : 1 ≤ k ∧ k ≤ 14) (h : (c, f) ∈ chs k) (h1 : k = 1 → n = 0) (hf : 2 ≤ k → canN f n) (hn : 2 ≤ k → numB k n = true) (h6 : n < 18446744073709551616) : plainV c (be n (wid c)) = .mk k n ⟨#[]⟩ [] := by
  have : k = 1 ∨ k = 2 ∨ k = 3 ∨ k = 4 ∨ k = 5 ∨ k = 6 ∨ k = 7 ∨ k = 8 ∨ k = 9 ∨ k = 10 ∨ k = 11 ∨ k = 12 ∨ k = 13 ∨ k = 14 := by omega
  have hw := (code_of (by omega) h).2.2.2.2 (by omega)
  have ht := tn_be n (wid c) hw
  have hl := be_length n (wid c)
  generalize hd : be n (wid c) = d at ht hl
  rcases this with rfl | rfl | rfl | rfl | rfl | rfl | rfl | rfl | rfl | rfl | rfl | rfl | rfl | rfl <;>
    simp only [chs, List.mem_cons, Prod.mk.injEq, List.not_mem_nil, or_false] at h <;>
    (repeat' (refine Or.elim h (fun h => ?_) (fun h => ?_))) <;>
    (obtain ⟨rfl, rfl⟩ := h) <;>
    (simp [wid] at ht hl) <;>
    (simp [plainV, kof, kof2, ht, hl, sgw]) <;>
    (simp [canN, numB, sgB, isC] at h1 hf hn) <;>
    (try (have hs := sg1_near hf h6)) <;> 
    (try omega) <;> (try (split <;> omega)) <;> (try (rw [hf]; rfl))
end Go.Proofs.YtikjnbognjicdaaDoor.Dec

namespace Go.Proofs.YtikjnbognjicdaaDoor.Dec
set_option maxRecDepth 100000
open Go.Proofs.YtikjnbognjicdaaDoor.Val V Go.Proofs.YtikjnbognjicdaaDoor.Utf Go.Proofs.YtikjnbognjicdaaDoor.Enc

theorem name_leaf {k n : Nat} {t : ByteArray} {ks : List V} (h : mayB (.mk k n t ks) = true) (hn : nameB k = true) : (k = 6 ∨ k = 21) ∧ ks = [] := by
  have hk : k = 6 ∨ k = 21 := by simpa [nameB] using hn
  refine ⟨hk, ?_⟩
  rcases hk with rfl | rfl
  · exact (aloneN (by omega) h).2.1
  · exact (aloneT (by omega) h).2.1
theorem called_spec (N : Nat) : ∀ v : V, bulk v ≤ N → mayB v = true → (∀ x ∈ called v, mayB x = true ∧ nameB x.kind = true) ∧ items v = items (core v) + 2 * (called v).length ∧ (called v).length + depth (core v) ≤ depth v ∧ calledV (called v) (core v) = v := by
  induction N with
  | zero => intro v hN; have := bulk_pos v; omega
  | succ N ih =>
    intro v hN h
    obtain ⟨k, n, t, ks⟩ := v
    by_cases hk : k = 25
    · subst hk
      obtain ⟨rfl, rfl⟩ := desc_plain h
      obtain ⟨x, y, rfl, hx1, hx, hy⟩ := may_desc h
      obtain ⟨i1, i2, i3, i4⟩ := ih y (by simp only [bulk, bulkL] at hN; omega) hy
      have hxi : items x = 1 ∧ depth x = 1 := by
        obtain ⟨xk, xn, xt, xs⟩ := x
        obtain ⟨_, rfl⟩ := name_leaf hx hx1
        simp [items, itemsL, depth, depthL]
      rw [called_desc, core_desc]
      refine ⟨fun z hz => ?_, ?_, ?_, ?_⟩
      · rcases List.mem_cons.1 hz with rfl | hz
        · exact ⟨hx, hx1⟩
        · exact i1 z hz
      · simp only [items, itemsL, List.length_cons, hxi.1]; omega
      · simp only [depth, depthL, List.length_cons, hxi.2]; omega
      · rw [calledV, i4]
    · rw [called_not hk, core_not hk]
      exact ⟨fun x hx => (by cases hx), by simp, by simp, rfl⟩
theorem called_whole {v : V} (h : mayB v = true) : calledV (called v) (core v) = v := (called_spec _ v (Nat.le_refl _) h).2.2.2
theorem called_items {v : V} (h : mayB v = true) : items v = items (core v) + 2 * (called v).length := (called_spec _ v (Nat.le_refl _) h).2.1
theorem called_depth {v : V} (h : mayB v = true) : (called v).length + depth (core v) ≤ depth v := (called_spec _ v (Nat.le_refl _) h).2.2.1

theorem data_fix {c : Nat} {d X : List Nat} (h0 : sw c = 0) (h : lg c = d.length) : dataD c (d ++ X) = some (d, X) := by
  unfold dataD
  rw [if_pos h0, h, if_pos (by simp)]
  simp
theorem data_var {c : Nat} {d X : List Nat} (h0 : sw c ≠ 0) (h4 : sw c ≤ 8) (h : d.length < 256 ^ sw c) : dataD c (be d.length (sw c) ++ d ++ X) = some (d, X) := by
  unfold dataD
  have hl := be_length d.length (sw c)
  have ht : (be d.length (sw c) ++ d ++ X).take (sw c) = be d.length (sw c) := by rw [List.append_assoc, List.take_append_of_le_length (by omega), List.take_of_length_le (by omega)]
  have hd : (be d.length (sw c) ++ d ++ X).drop (sw c) = d ++ X := by rw [List.append_assoc, List.drop_append_of_le_length (by omega), List.drop_of_length_le (by omega), List.nil_append]
  rw [if_neg h0, if_pos (by simp only [List.length_append]; omega), ht, hd, tn_be _ _ h4, Nat.mod_eq_of_lt h, if_pos (by simp)]
  simp
theorem can_short (k n : Nat) (t : ByteArray) (ks : List V) : can .short (rawv (.mk k n t ks)) = decide (t.size ≤ 255) := rfl
theorem can_none (k n : Nat) (t : ByteArray) (ks : List V) : can .none_ (rawv (.mk k n t ks)) = decide (ks.length = 0) := rfl
theorem can_small (k n : Nat) (t : ByteArray) (ks : List V) : can .small (rawv (.mk k n t ks)) = (decide (1 + longK (kp k ks) ≤ 255) && decide (ks.length ≤ 255)) := rfl
/-- A value without kids, by a code that can tell it. -/
theorem leaf_back {k n c : Nat} {f : Enc.Can} {t : ByteArray} {ks : List V} (hg : Enc.Good (.mk k n t ks)) (hk : 1 ≤ k ∧ k ≤ 21) (h : (c, f) ∈ chs k) (hc : can f (rawv (.mk k n t ks)) = true) :
    ∃ D, (∀ X, dataD c (dat c (.mk k n t ks) ++ X) = some (D, X)) ∧ plainV c D = .mk k n t ks := by
  obtain ⟨hm, h6, hb⟩ := hg
  obtain ⟨hkof, _, hc1, hc2, hw8⟩ := code_of (by omega) h
  have hn6 : n < 18446744073709551616 := h6.1
  by_cases h15 : k < 15
  · obtain ⟨h0, hlg⟩ := hc1 (by omega)
    have hdat : dat c (.mk k n t ks) = be n (wid c) := by
      simp only [dat, dlay]
      by_cases hw : wid c = 0
      · rw [if_pos hw, hw]; rfl
      · rw [if_neg hw, if_pos h15]
    refine ⟨be n (wid c), fun X => by rw [hdat]; exact data_fix h0 (by rw [be_length]; exact hlg), ?_⟩
    by_cases h1 : k = 1
    · subst h1
      obtain ⟨rfl, rfl, rfl⟩ := alone1 hm
      exact num_back (by omega) h (fun _ => rfl) (fun h => absurd h (by omega)) (fun h => absurd h (by omega)) hn6
    · obtain ⟨rfl, rfl, hnum⟩ := aloneN (by omega) hm
      exact num_back (by omega) h (fun e => absurd e h1) (fun _ => can_num (by omega) h hc) (fun _ => hnum) hn6
  · obtain ⟨rfl, rfl, htx⟩ := aloneT (by omega) hm
    have hpl : plainV c (tb t) = .mk k 0 t [] := by
      unfold plainV
      rw [hkof, if_neg (by omega), if_neg (by omega), if_neg (by omega), if_pos (by omega), sb_tb]
    by_cases h19 : k < 19
    · obtain ⟨h0, hlg⟩ := hc1 h19
      have hwid := text_wid (by omega) h htx
      have hw0 : wid c ≠ 0 := code_text (by omega) h
      have hdat : dat c (.mk k 0 t []) = tb t := by simp only [dat, dlay]; rw [if_neg hw0, if_neg h15, if_pos h19]
      exact ⟨tb t, fun X => by rw [hdat]; exact data_fix h0 (by rw [tb_length, hwid]; exact hlg), hpl⟩
    · obtain ⟨hsw, _⟩ := hc2 (by omega)
      have hcl := code_long (by omega) h
      have hw0 : wid c ≠ 0 := by rcases hcl with ⟨e, _⟩ | ⟨e, _⟩ <;> omega
      have hdat : dat c (.mk k 0 t []) = be (tb t).length (sw c) ++ tb t := by simp only [dat, dlay]; rw [if_neg hw0, if_neg h15, if_neg h19, if_pos (by omega), tb_length, hsw]
      have hsz : (tb t).length < 256 ^ sw c := by
        rw [tb_length, hsw]
        rcases hcl with ⟨e, rfl⟩ | ⟨e, rfl⟩
        · rw [e]
          have hc2 := of_decide_eq_true ((can_short k 0 t []).symm.trans hc)
          omega
        · rw [e]
          simp only [bulk, bulkL] at hb
          omega
      exact ⟨tb t, fun X => by rw [hdat]; exact data_var (by omega) (by rcases hcl with ⟨e, _⟩ | ⟨e, _⟩ <;> omega) hsz, hpl⟩
/-- A name, with anything behind it. -/
theorem name_back {x : V} (hg : Enc.Good x) (hn : nameB x.kind = true) (Z : List Nat) : nameD (lay (plan x) ++ Z) = .ok (x, Z) := by
  obtain ⟨k, n, t, ks⟩ := x
  obtain ⟨hk, rfl⟩ := name_leaf hg.1 hn
  obtain ⟨f, hf, hall⟩ := pick_all (k := k) (by omega) (by omega) [rawv (.mk k n t [])]
  simp only [List.all_cons, List.all_nil, Bool.and_true] at hall
  obtain ⟨D, h1, h2⟩ := leaf_back hg (by omega) hf hall
  rw [lay_core (by omega)]
  generalize pick (chs k) [rawv (.mk k n t [])] = c at hf hall h1 h2
  have hkc := (code_of (by omega) hf).1
  simp only [List.cons_append, nameD]
  rw [if_pos (by rw [hkc]; exact hk), h1 Z]
  simp only
  rw [h2]
theorem head_names : ∀ (l : List V) (N : Nat) (Y : List Nat) (c : Nat), GoodL l → (∀ x ∈ l, nameB x.kind = true) → c ≠ 0 → kof c ≠ 0 → (layN (planL l) ++ c :: Y).length < N → headN N (layN (planL l) ++ c :: Y) = .ok (l, c, Y)
  | [], 0, _, _, _, _, _, _, h => absurd h (Nat.not_lt_zero _)
  | [], N + 1, Y, c, _, _, h0, hk, _ => by
    simp only [planL, layN, List.nil_append]
    rw [headN, if_neg h0, if_neg hk]
  | x :: l, 0, _, _, _, _, _, _, h => absurd h (Nat.not_lt_zero _)
  | x :: l, N + 1, Y, c, hg, hn, h0, hk, h => by
    obtain ⟨hgx, hgl⟩ := hg.cons
    simp only [planL, layN, List.cons_append, List.append_assoc, List.length_cons, List.length_append] at h ⊢
    have hxp : 0 < (lay (plan x)).length ∨ True := .inr trivial
    rw [headN, if_pos rfl, name_back hgx (hn x (by simp))]
    simp only
    rw [head_names l N Y c hgl (fun y hy => hn y (by simp [hy])) h0 hk (by simp only [List.length_append, List.length_cons]; omega)]
/-- A constructor. -/
theorem head_back {v : V} (hg : Enc.Good v) {c : Nat} (h0 : c ≠ 0) (hk : kof c ≠ 0) (Y : List Nat) : headD (layN (planL (called v)) ++ c :: Y) = .ok (called v, c, Y) :=
  head_names _ _ _ _ hg.called (fun x hx => ((called_spec _ v (Nat.le_refl _) hg.1).1 x hx).2) h0 hk (Nat.lt_succ_self _)

/-- Data, by a code that can tell the value. -/
def BackD (N : Nat) : Prop := ∀ (c : Nat) (f : Enc.Can) (v : V), bulk v ≤ N → Enc.Good v → depth v ≤ 16 → v.kind ≠ 25 → (c, f) ∈ chs v.kind → can f (rawv v) = true →
  ∃ D, (∀ X, dataD c (dat c v ++ X) = some (D, X)) ∧ ∀ (F it : Nat) (ns : List V), D.length < F → it + items v + 2 * ns.length ≤ 1024 → toldN F it ns c D = some (calledV ns v, it + items v + 2 * ns.length)
/-- A value. -/
def BackI (N : Nat) : Prop := ∀ (v : V) (X : List Nat) (F it : Nat), bulk v ≤ N → Enc.Good v → depth v ≤ 16 → (lay (plan v)).length ≤ F → it + items v ≤ 1024 → valD (toldN F) it (lay (plan v) ++ X) = .ok (v, it + items v, X)

theorem code_pick {v : V} (hm : mayB v = true) : ∃ f, (kcode [v], f) ∈ chs (core v).kind ∧ can f (rawv (core v)) = true ∧ kcode [v] ≠ 0 ∧ kof (kcode [v]) ≠ 0 ∧ (core v).kind ≤ 24 := by
  have hck := core_kind v hm
  obtain ⟨f, hf, hall⟩ := pick_all hck.1 hck.2 [rawv (core v)]
  rw [← kcode_one hm] at hf
  simp only [List.all_cons, List.all_nil, Bool.and_true] at hall
  have h1 := (code_of hck.2 hf).1
  have h2 : kof (kcode [v]) ≠ 0 := by rw [h1]; omega
  exact ⟨f, hf, hall, fun e => h2 (by rw [e]; rfl), h2, hck.2⟩
theorem backI_step {N : Nat} (h : BackD N) : BackI N := by
  intro v X F it hN hg hd hF hit
  obtain ⟨f, hf, hc, h0, hk, _⟩ := code_pick hg.1
  have hcb := core_bulk v hg.1
  have hci := called_items hg.1
  have hcd := called_depth hg.1
  obtain ⟨D, h1, h2⟩ := h (kcode [v]) f (core v) (by omega) hg.core (by omega) (core_ne v hg.1) hf hc
  have hdl := data_len (h1 [])
  rw [lay_split hg.1, List.append_nil] at *
  simp only [List.length_append, List.length_cons] at hF
  rw [List.append_assoc, List.cons_append]
  unfold valD
  rw [head_back hg h0 hk]
  simp only
  rw [h1 X]
  simp only
  have hcp := depth_pos (core v)
  rw [List.take_of_length_le (by omega), h2 F it (called v) (by simp at hdl; omega) (by omega), called_whole hg.1, hci]
  simp only [Nat.add_assoc]
theorem loop_back {N F : Nat} (h : BackI N) : ∀ (l : List V) (it : Nat), bulkL l ≤ N → GoodL l → depthL l ≤ 16 → (layK (planL l)).length ≤ F → it + itemsL l ≤ 1024 → loopN (stepV (toldN F)) l.length it (layK (planL l)) = some (l, it + itemsL l, [])
  | [], it, _, _, _, _, _ => by simp [planL, layK, loopN, itemsL]
  | v :: l, it, hN, hg, hd, hF, hit => by
    obtain ⟨hgv, hgl⟩ := hg.cons
    simp only [bulkL] at hN
    simp only [depthL] at hd
    simp only [planL, layK, List.length_append] at hF ⊢
    simp only [itemsL] at hit ⊢
    rw [List.length_cons, loopN, step_val, h v _ F it (by omega) hgv (by omega) (by omega) (by omega)]
    simp only
    rw [loop_back h l (it + items v) (by omega) hgl (by omega) (by omega) (by omega)]
    simp only [Nat.add_assoc]
theorem loopA_back {N F c k : Nat} {f : Enc.Can} {ns : List V} (h : BackD N) (hcf : (c, f) ∈ chs k) : ∀ (l : List V) (it : Nat), bulkL l ≤ N → GoodL l → depthL l ≤ 16 → (∀ e ∈ l, (core e).kind = k ∧ can f (plan e) = true ∧ called e = ns) → (datL c l).length < F → it + itemsL l ≤ 1024 → loopN (stepA (toldN F) ns c) l.length it (datL c l) = some (l, it + itemsL l, [])
  | [], it, _, _, _, _, _, _ => by simp [datL, loopN, itemsL]
  | v :: l, it, hN, hg, hd, he, hF, hit => by
    obtain ⟨hgv, hgl⟩ := hg.cons
    obtain ⟨e1, e2, e3⟩ := he v (by simp)
    simp only [bulkL] at hN
    simp only [depthL] at hd
    simp only [datL, List.length_append] at hF ⊢
    simp only [itemsL] at hit ⊢
    have hcb := core_bulk v hgv.1
    have hci := called_items hgv.1
    have hcd := called_depth hgv.1
    obtain ⟨D, h1, h2⟩ := h c f (core v) (by omega) hgv.core (by omega) (core_ne v hgv.1) (by rw [e1]; exact hcf) (by rw [← can_core f v hgv.1]; exact e2)
    have hdl := data_len (h1 [])
    rw [List.append_nil] at hdl
    have hw : calledV ns (core v) = v := by rw [← e3]; exact called_whole hgv.1
    rw [e3] at hci
    have hst : stepA (toldN F) ns c it (dat c (core v) ++ datL c l) = some (v, it + items v, datL c l) := by
      unfold stepA
      rw [h1]
      simp only
      rw [h2 F it ns (by simp at hdl; omega) (by omega), hw, hci]
      simp only [Nat.add_assoc]
    rw [List.length_cons, loopN, hst]
    simp only
    rw [loopA_back h hcf l (it + items v) (by omega) hgl (by omega) (fun e hx => he e (by simp [hx])) (by omega) (by omega)]
    simp only [Nat.add_assoc]
theorem kids_flat_back {tl : Nat → List V → Nat → List Nat → Option (V × Nat)} {c it it' n w : Nat} {L : List Nat} {vs : List V} (hw : sw c = w) (h8 : w ≤ 8) (hn : n < 256 ^ w) (hn1 : n ≤ 1024) (hk : kof c ≠ 24) (hl : loopN (stepV tl) n it L = some (vs, it', [])) : kidsD tl c it (be n w ++ L) = some (vs, it') := by
  subst hw
  have hbl := be_length n (sw c)
  have ht : (be n (sw c) ++ L).take (sw c) = be n (sw c) := by rw [List.take_append_of_le_length (by omega), List.take_of_length_le (by omega)]
  have hd : (be n (sw c) ++ L).drop (sw c) = L := by rw [List.drop_append_of_le_length (by omega), List.drop_of_length_le (by omega), List.nil_append]
  unfold kidsD
  rw [if_neg (by simp only [List.length_append]; omega), ht, hd, tn_be _ _ h8, Nat.mod_eq_of_lt hn, if_neg (by omega), if_neg hk, hl]
theorem kids_array_back {tl : Nat → List V → Nat → List Nat → Option (V × Nat)} {c c' it it' n w : Nat} {L r : List Nat} {ns vs : List V} (hw : sw c = w) (h8 : w ≤ 8) (hn : n < 256 ^ w) (hn1 : n ≤ 1024) (hk : kof c = 24) (hh : headD L = .ok (ns, c', r)) (hl : loopN (stepA tl (ns.take 16) c') n it r = some (vs, it', [])) : kidsD tl c it (be n w ++ L) = some (vs, it') := by
  subst hw
  have hbl := be_length n (sw c)
  have ht : (be n (sw c) ++ L).take (sw c) = be n (sw c) := by rw [List.take_append_of_le_length (by omega), List.take_of_length_le (by omega)]
  have hd : (be n (sw c) ++ L).drop (sw c) = L := by rw [List.drop_append_of_le_length (by omega), List.drop_of_length_le (by omega), List.nil_append]
  unfold kidsD
  rw [if_neg (by simp only [List.length_append]; omega), ht, hd, tn_be _ _ h8, Nat.mod_eq_of_lt hn, if_neg (by omega), if_pos hk, hh]
  simp only
  rw [hl]
theorem backD_step {N : Nat} (hI : ∀ M, M < N → BackI M) (hD : ∀ M, M < N → BackD M) : BackD N := by
  intro c f v hN hg hd hk25 hcf hc
  obtain ⟨k, n, t, ks⟩ := v
  simp only [V.kind] at hk25 hcf
  have hkk : 1 ≤ k ∧ k ≤ 24 := by
    have := core_kind _ hg.1
    rwa [core_not hk25] at this
  obtain ⟨hkof, _, hc1, hc2, hw8⟩ := code_of hkk.2 hcf
  by_cases h22 : k ≤ 21
  · obtain ⟨D, h1, h2⟩ := leaf_back hg ⟨hkk.1, h22⟩ hcf hc
    refine ⟨D, h1, fun F it ns hF hit => ?_⟩
    obtain ⟨F, rfl⟩ : ∃ F', F = F' + 1 := ⟨F - 1, by omega⟩
    have hks : ks = [] := by
      have := plain_kids c D
      rw [h2] at this
      exact this
    subst hks
    have hi : items (.mk k n t []) = 1 := by simp [items, itemsL]
    rw [hi] at hit ⊢
    rw [told_succ, if_neg (by omega)]
    unfold aloneD
    rw [if_pos (by rw [hkof]; omega), h2]
  · obtain ⟨rfl, rfl⟩ := aloneK (by omega) hg.1
    obtain ⟨hsw, hlg⟩ := hc2 (by omega)
    have hgk := hg.kids
    have hlen := ins_len hg
    have hre := re_bound hg
    have hbb := hg.2.2
    have hNk : bulkL ks < N := by simp only [bulk] at hN; have : (ByteArray.mk #[]).size = 0 := rfl; omega
    simp only [bulk] at hbb
    simp only [depth] at hd
    have hki : ∀ it ns, it + items (.mk k 0 ⟨#[]⟩ ks) + 2 * ns.length = (it + 1 + 2 * (ns : List V).length) + itemsL ks := fun it ns => by simp only [items]; omega
    have hfin : ∀ D : List Nat, (∀ F it, D.length ≤ F → it + itemsL ks ≤ 1024 → kidsD (toldN F) c it D = some (ks, it + itemsL ks)) →
        ∀ (F it : Nat) (ns : List V), D.length < F → it + items (.mk k 0 ⟨#[]⟩ ks) + 2 * ns.length ≤ 1024 → toldN F it ns c D = some (calledV ns (.mk k 0 ⟨#[]⟩ ks), it + items (.mk k 0 ⟨#[]⟩ ks) + 2 * ns.length) := by
      intro D hK F it ns hF hit
      obtain ⟨F, rfl⟩ : ∃ F', F = F' + 1 := ⟨F - 1, by omega⟩
      rw [hki] at hit ⊢
      rw [told_succ, if_neg (by omega)]
      unfold aloneD
      rw [if_neg (by rw [hkof]; omega), hK F _ (by omega) hit, hkof]
    rcases code_kids (by omega) hcf with ⟨hw, rfl, rfl⟩ | hrest
    · have hks : ks = [] := by
        exact List.eq_nil_of_length_eq_zero (of_decide_eq_true ((can_none 22 0 ⟨#[]⟩ ks).symm.trans hc))
      subst hks
      have hdat : dat c (.mk 22 0 ⟨#[]⟩ []) = [] := by simp only [dat, dlay]; rw [if_pos hw]
      refine ⟨[], fun X => by rw [hdat]; exact data_fix (by omega) (by simpa using hlg), hfin [] fun F it _ _ => ?_⟩
      have := kids_flat_back (tl := toldN F) (c := c) (it := it) (n := 0) (w := 0) (L := []) (vs := []) (it' := it) (by omega) (by omega) (by simp) (by omega) (by omega) (by simp [loopN])
      simpa [be, itemsL] using this
    · obtain ⟨W, hW, hW8, hW0, hsz, hnum⟩ : ∃ W, wid c = W ∧ W ≤ 8 ∧ W ≠ 0 ∧ W + longK (kp k ks) < 256 ^ W ∧ (ks.length ≤ 1024 → ks.length < 256 ^ W) := by
        rcases hrest with ⟨e, rfl⟩ | ⟨e, rfl⟩
        · have hc2 := (can_small k 0 ⟨#[]⟩ ks).symm.trans hc
          simp only [Bool.and_eq_true, decide_eq_true_eq] at hc2
          exact ⟨1, e, by omega, by omega, by omega, fun _ => by omega⟩
        · exact ⟨4, e, by omega, by omega, by omega, fun h => by omega⟩
      have hdat : dat c (.mk k 0 ⟨#[]⟩ ks) = be (be ks.length W ++ layK (kp k ks)).length (sw c) ++ (be ks.length W ++ layK (kp k ks)) := by
        simp only [dat, dlay]
        rw [if_neg (by omega), if_neg (by omega), if_neg (by omega), if_neg (by omega), hsw, hW, List.length_append, be_length, hlen, List.append_assoc]
      refine ⟨be ks.length W ++ layK (kp k ks), fun X => by rw [hdat]; exact data_var (by omega) (by omega) (by rw [List.length_append, be_length, hsw, hW, ← hlen]; exact hsz), hfin _ fun F it hF hit => ?_⟩
      rw [List.length_append, be_length] at hF
      have hll := length_le ks
      by_cases h24 : k = 24
      · subst h24
        simp only [kp, if_true] at hF ⊢
        cases ks with
        | nil => exact kids_array_back (by omega) hW8 (hnum (by simp)) (by simp) hkof (show headD (layK (alikeP (planL []))) = .ok ([], 64, []) by rfl) (by simp [loopN, itemsL])
        | cons a r =>
          obtain ⟨f', hf', hck1, hck2, hall⟩ := arr_code hg.1
          have hga := hgk.cons.1
          have hcd := called_depth hga.1
          have hcp := depth_pos (core a)
          have hkc := (code_of hck2 hf').1
          rw [layK_alike a r hgk.1] at hF ⊢
          have hda : depth a ≤ 16 := by simp only [depthL] at hd; omega
          refine kids_array_back (by omega) hW8 (hnum (by omega)) (by omega) hkof (head_back hga (fun e => by rw [e] at hkc; have : kof 0 = 0 := rfl; omega) (by omega) _) ?_
          rw [List.take_of_length_le (by omega)]
          simp only [List.length_append, List.length_cons] at hF
          exact loopA_back (hD _ hNk) hf' (a :: r) it (Nat.le_refl _) hgk (by omega) hall (by omega) hit
      · simp only [kp, if_neg h24] at hF ⊢
        exact kids_flat_back (by omega) hW8 (hnum (by omega)) (by omega) (by omega) (loop_back (hI _ hNk) ks it (Nat.le_refl _) hgk (by omega) (by omega) hit)
theorem back_all (N : Nat) : BackI N ∧ BackD N := by
  induction N using Nat.strongRecOn with
  | ind N ih =>
    have h := backD_step (fun M hM => (ih M hM).1) (fun M hM => (ih M hM).2)
    exact ⟨backI_step h, h⟩
theorem val_back {v : V} (hg : Enc.Good v) (hok : okB v = true) (X : List Nat) : valD (toldN (lay (plan v) ++ X).length) 0 (lay (plan v) ++ X) = .ok (v, items v, X) := by
  unfold okB at hok
  simp only [Bool.and_eq_true, decide_eq_true_eq] at hok
  have := (back_all (bulk v)).1 v X (lay (plan v) ++ X).length 0 (Nat.le_refl _) hg hok.1.2 (by rw [List.length_append]; omega) (by omega)
  rwa [Nat.zero_add] at this
/-- What encode tells of a value is decoded as it, with anything behind it. -/
theorem dec_lay {v : V} (hg : Enc.Good v) (hok : okB v = true) (X : List Nat) : decD (lay (plan v) ++ X) = (v, (lay (plan v)).length, 0) := by
  rw [dec_ok (val_back hg hok X) hok]
  simp only [Prod.mk.injEq, and_true, true_and, List.length_append]
  omega
end Go.Proofs.YtikjnbognjicdaaDoor.Dec
