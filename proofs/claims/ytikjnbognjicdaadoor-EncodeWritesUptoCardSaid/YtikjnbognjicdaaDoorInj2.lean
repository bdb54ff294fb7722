/-
  Bytes tell their values: of two values that may be, neither's bytes are the beginning of the other's with anything behind, if they are not the same. Plain mathematics. Condition: numbers below 2^64, bulk at most 2^26.
  Bytes tell their values, the induction. Plain mathematics. Condition: numbers below 2^64, bulk at most 2^26.
-/
import Derived.Test.YtikjnbognjicdaaDoorPlanN
namespace Go.Proofs.YtikjnbognjicdaaDoor.Enc
set_option maxRecDepth 100000
open Go.Proofs.YtikjnbognjicdaaDoor.Val V Pl

mutual
/-- All numbers are of 64 bits. -/
def n64 : V → Prop
  | .mk _ n _ ks => n < 18446744073709551616 ∧ n64L ks
def n64L : List V → Prop
  | [] => True
  | v :: r => n64 v ∧ n64L r
end
theorem n64L_mem : ∀ {l : List V}, n64L l → ∀ v ∈ l, n64 v
  | [], _, _, h => by cases h
  | x :: l, h, v, hv => by
    rcases List.mem_cons.1 hv with rfl | hv
    · exact h.1
    · exact n64L_mem h.2 v hv

theorem be_inj (X Y : Nat) : ∀ k, be X k = be Y k → X % 256 ^ k = Y % 256 ^ k
  | 0, _ => by simp [Nat.mod_one]
  | k + 1, h => by
    simp only [be, List.cons.injEq] at h
    rw [Nat.mod_pow_succ, Nat.mod_pow_succ, be_inj X Y k h.2, h.1]
theorem tb_inj {s t : ByteArray} (h : tb s = tb t) : s = t := by
  have : s.data.toList = t.data.toList := by
    have hi : ∀ a b : List UInt8, a.map UInt8.toNat = b.map UInt8.toNat → a = b := by
      intro a
      induction a with
      | nil => intro b h; cases b with
        | nil => rfl
        | cons => cases h
      | cons x a ih => intro b h; cases b with
        | nil => cases h
        | cons y b =>
          simp only [List.map_cons, List.cons.injEq] at h
          rw [UInt8.toNat_inj.1 h.1, ih b h.2]
    exact hi _ _ h
  exact ba_ext.1 this
theorem app_inj {α : Type} {a b x y : List α} (hl : a.length = b.length) (h : a ++ x = b ++ y) : a = b ∧ x = y := List.append_inj h hl

/-- The kids' plans. -/
def kp (k : Nat) (ks : List V) : List Pl := if k = 24 then alikeP (planL ks) else planL ks
/-- A value's data by a code. -/
def dat (c : Nat) : V → List Nat
  | .mk k n t ks => dlay k n t c (longK (kp k ks)) ks.length (layK (kp k ks))
def rawv : V → Pl
  | .mk k n t ks => raw [] k n t ks.length (kp k ks)
def datL (c : Nat) : List V → List Nat
  | [] => []
  | v :: r => dat c (core v) ++ datL c r
theorem lay_core {k n : Nat} {t : ByteArray} {ks : List V} (h : k ≠ 25) : lay (plan (.mk k n t ks)) = pick (chs k) [rawv (.mk k n t ks)] :: dat (pick (chs k) [rawv (.mk k n t ks)]) (.mk k n t ks) := by
  rw [plan_core n t ks h, fin, lay, if_neg (by decide)]
  rfl
theorem addN_bare (ds : List Pl) (p : Pl) : (addN ds p).bare = p.bare := by cases p; rfl
theorem plan_bare_of (N : Nat) : ∀ v : V, bulk v ≤ N → mayB v = true → (plan v).bare = false := by
  induction N with
  | zero => intro v hN; have := bulk_pos v; omega
  | succ N ih =>
    intro v hN h
    obtain ⟨k, n, t, ks⟩ := v
    by_cases hk : k = 25
    · subst hk
      obtain ⟨x, y, rfl, _, hx, hy⟩ := may_desc h
      rw [plan_desc, addN_bare]
      exact ih y (by simp only [bulk, bulkL] at hN; omega) hy
    · rw [plan_core n t ks hk]; rfl
theorem plan_bare (v : V) (h : mayB v = true) : (plan v).bare = false := plan_bare_of _ v (Nat.le_refl _) h
theorem lay_addN (ds : List Pl) (p : Pl) (h : p.bare = false) : lay (addN ds p) = layN ds ++ lay p := by
  obtain ⟨ns, k, n, t, c, b, ks, re, im⟩ := p
  simp only [Pl.bare] at h
  subst h
  simp only [addN, lay, layN_append, Bool.false_eq_true, if_false, List.append_assoc]
/-- What is called something: a byte 0, the bytes of what it is called, and its own. -/
theorem lay_desc (n : Nat) (t : ByteArray) (x y : V) (hy : mayB y = true) : lay (plan (.mk 25 n t [x, y])) = 0 :: (lay (plan x) ++ lay (plan y)) := by
  rw [plan_desc, lay_addN _ _ (plan_bare y hy)]
  simp [layN]
theorem plan_split_of (N : Nat) : ∀ v : V, bulk v ≤ N → mayB v = true → plan v = addN (planL (called v)) (plan (core v)) := by
  induction N with
  | zero => intro v hN; have := bulk_pos v; omega
  | succ N ih =>
    intro v hN h
    obtain ⟨k, n, t, ks⟩ := v
    by_cases hk : k = 25
    · subst hk
      obtain ⟨x, y, rfl, _, hx, hy⟩ := may_desc h
      rw [plan_desc, called_desc, core_desc, planL, ih y (by simp only [bulk, bulkL] at hN; omega) hy, addN_addN]
      rfl
    · rw [called_not hk, core_not hk, planL, addN_nil]
theorem plan_split (v : V) (h : mayB v = true) : plan v = addN (planL (called v)) (plan (core v)) := plan_split_of _ v (Nat.le_refl _) h
theorem core_may (v : V) (h : mayB v = true) : mayB (core v) = true := (plan_kind v h).2.2
theorem core_ne (v : V) (h : mayB v = true) : (core v).kind ≠ 25 := (plan_kind v h).2.1
theorem setc_bare (c : Nat) (v : V) (h : mayB v = true) : lay (setc c true (plan v)) = dat c (core v) := by
  rw [plan_split v h]
  have hk := core_ne v h
  generalize core v = u at hk ⊢
  obtain ⟨k, n, t, ks⟩ := u
  have hk : k ≠ 25 := hk
  rw [plan_core n t ks hk]
  rfl
theorem setc_whole (c : Nat) (v : V) (h : mayB v = true) : lay (setc c false (plan v)) = layN (planL (called v)) ++ (c :: dat c (core v)) := by
  rw [plan_split v h]
  have hk := core_ne v h
  generalize core v = u at hk ⊢
  obtain ⟨k, n, t, ks⟩ := u
  have hk : k ≠ 25 := hk
  rw [plan_core n t ks hk]
  simp only [fin, addN, setc, lay, List.append_nil]
  rfl
theorem can_core (f : Can) (v : V) (h : mayB v = true) : can f (plan v) = can f (rawv (core v)) := by
  rw [plan_split v h]
  have hk := core_ne v h
  generalize core v = u at hk ⊢
  obtain ⟨k, n, t, ks⟩ := u
  have hk : k ≠ 25 := hk
  rw [plan_core n t ks hk]
  exact can_names _ _ _ _ _ _ _ _ _ _ _ _ _ _
theorem layK_bare (c : Nat) : ∀ l : List V, mayL l = true → layK ((planL l).map (setc c true)) = datL c l
  | [], _ => rfl
  | v :: r, h => by
    simp only [mayL, Bool.and_eq_true] at h
    simp only [planL, List.map_cons, layK, datL, setc_bare c v h.1, layK_bare c r h.2]
/-- The code of an array's kids. -/
def kcode (ks : List V) : Nat := first (planL ks)
theorem layK_alike (a : V) (r : List V) (h : mayL (a :: r) = true) : layK (alikeP (planL (a :: r))) = layN (planL (called a)) ++ (kcode (a :: r) :: datL (kcode (a :: r)) (a :: r)) := by
  simp only [mayL, Bool.and_eq_true] at h
  have e : alikeP (planL (a :: r)) = setc (kcode (a :: r)) false (plan a) :: (planL r).map (setc (kcode (a :: r)) true) := rfl
  rw [e, layK, setc_whole _ a h.1, layK_bare _ r h.2]
  simp [datL]

theorem pick_spec (l : List Pl) : ∀ cs : List (Nat × Can), (∃ c, (c, Can.all) ∈ cs) → ∃ f, (pick cs l, f) ∈ cs ∧ l.all (can f) = true
  | [], ⟨c, h⟩ => by cases h
  | (c0, f0) :: r, h => by
    by_cases hc : l.all (can f0) = true
    · exact ⟨f0, by simp [pick, hc], hc⟩
    · obtain ⟨c, h⟩ := h
      rcases List.mem_cons.1 h with h | h
      · injection h with _ h
        rw [← h] at hc
        exact absurd (List.all_eq_true.2 fun p _ => rfl) hc
      · obtain ⟨f, hf, ha⟩ := pick_spec l r ⟨c, h⟩
        exact ⟨f, by simp [pick, hc, hf], ha⟩
theorem pick_all {k : Nat} (h1 : 1 ≤ k) (h2 : k ≤ 24) (l : List Pl) : ∃ f, (pick (chs k) l, f) ∈ chs k ∧ l.all (can f) = true := by
  have h := List.all_eq_true.1 codes_ok k (List.mem_range.2 (by omega))
  simp only [Bool.or_eq_true, beq_iff_eq, Bool.and_eq_true] at h
  rcases h with h | ⟨ha, hb⟩
  · omega
  · obtain ⟨⟨c, f⟩, hx, hf⟩ := List.any_eq_true.1 hb
    have hf' : f = .all := by cases f <;> simp_all
    subst hf'
    exact pick_spec l (chs k) ⟨c, hx⟩
/-- Codes tell their kind, and what they can tell. -/
def codeEq : Can → Can → Bool
  | .all, .all => true
  | .just m, .just n => m == n
  | .upto m, .upto n => m == n
  | .short, .short => true
  | .near, .near => true
  | .none_, .none_ => true
  | .small, .small => true
  | _, _ => false
theorem codeEq_iff {a b : Can} (h : codeEq a b = true) : a = b := by cases a <;> cases b <;> simp_all [codeEq]
theorem codes_apart : ((List.range 25).all fun k => (List.range 25).all fun k' => (chs k).all fun x => (chs k').all fun y => !(x.1 == y.1) || ((k == k') && codeEq x.2 y.2)) = true := by decide +kernel
theorem code_kind {k k' c : Nat} {f f' : Can} (hk : k ≤ 24) (hk' : k' ≤ 24) (h : (c, f) ∈ chs k) (h' : (c, f') ∈ chs k') : k = k' ∧ f = f' := by
  have h1 := List.all_eq_true.1 (List.all_eq_true.1 (List.all_eq_true.1 (List.all_eq_true.1 codes_apart k (List.mem_range.2 (by omega))) k' (List.mem_range.2 (by omega))) _ h) _ h'
  simp only [beq_self_eq_true, Bool.not_true, Bool.false_or, Bool.and_eq_true, beq_iff_eq] at h1
  exact ⟨h1.1, codeEq_iff h1.2⟩
theorem code_pos {k c : Nat} {f : Can} (hk : 1 ≤ k) (hk' : k ≤ 24) (h : (c, f) ∈ chs k) : c ≠ 0 := by
  have h1 := List.all_eq_true.1 codes_ok k (List.mem_range.2 (by omega))
  simp only [Bool.or_eq_true, beq_iff_eq, Bool.and_eq_true] at h1
  rcases h1 with h1 | ⟨ha, _⟩
  · omega
  · have := List.all_eq_true.1 ha _ h
    simp only [Bool.and_eq_true, Bool.or_eq_true, decide_eq_true_eq] at this
    omega

/-- Values that are alike are called the same. -/
theorem alike_called_of (N : Nat) : ∀ a b : V, bulk a ≤ N → mayB a = true → mayB b = true → alikeB a b = true → called a = called b := by
  induction N with
  | zero => intro v _ hN; have := bulk_pos v; omega
  | succ N ih =>
    intro a b hN ha hb h
    obtain ⟨k, n, t, ks⟩ := a
    obtain ⟨k', n', t', ks'⟩ := b
    by_cases hkk : k = k'
    · subst hkk
      by_cases hk : k = 25
      · subst hk
        obtain ⟨x, y, rfl, _, _, hy⟩ := may_desc ha
        obtain ⟨x', y', rfl, _, _, hy'⟩ := may_desc hb
        rw [alikeB_desc, Bool.and_eq_true] at h
        rw [called_desc, called_desc, ih y y' (by simp only [bulk, bulkL] at hN; omega) hy hy' h.2, (same_iff _ _).1 h.1]
      · rw [called_not hk, called_not hk]
    · rw [alikeB_kind hkk] at h
      cases h
theorem desc_plain {n : Nat} {t : ByteArray} {ks : List V} (h : mayB (.mk 25 n t ks) = true) : n = 0 ∧ t = ⟨#[]⟩ := by
  simp only [mayB, Bool.and_eq_true] at h
  have := h.1.2
  simp [aloneOk, emptyB] at this
  exact ⟨this.1, (by rw [this.2]; rfl)⟩
theorem called_len (N : Nat) : ∀ v : V, bulk v ≤ N → mayB v = true → (called v = [] → core v = v) := by
  intro v _ h hc
  obtain ⟨k, n, t, ks⟩ := v
  by_cases hk : k = 25
  · subst hk
    obtain ⟨x, y, rfl, _, hx, hy⟩ := may_desc h
    rw [called_desc] at hc
    cases hc
  · exact core_not hk
theorem rebuild_of (N : Nat) : ∀ a b : V, bulk a ≤ N → mayB a = true → mayB b = true → called a = called b → core a = core b → a = b := by
  induction N with
  | zero => intro v _ hN; have := bulk_pos v; omega
  | succ N ih =>
    intro a b hN ha hb h hc
    by_cases h0 : called a = []
    · rw [← called_len _ a (Nat.le_refl _) ha h0, hc, called_len _ b (Nat.le_refl _) hb (h ▸ h0)]
    · obtain ⟨k, n, t, ks⟩ := a
      obtain ⟨k', n', t', ks'⟩ := b
      by_cases hk : k = 25
      · subst hk
        by_cases hk' : k' = 25
        · subst hk'
          obtain ⟨x, y, rfl, _, _, hy⟩ := may_desc ha
          obtain ⟨x', y', rfl, _, _, hy'⟩ := may_desc hb
          obtain ⟨rfl, rfl⟩ := desc_plain ha
          obtain ⟨rfl, rfl⟩ := desc_plain hb
          rw [called_desc, called_desc] at h
          rw [core_desc, core_desc] at hc
          injection h with h1 h2
          rw [h1, ih y y' (by simp only [bulk, bulkL] at hN; omega) hy hy' h2 hc]
        · exact absurd (h.trans (called_not hk')) h0
      · exact absurd (called_not hk) h0
theorem rebuild {a b : V} (ha : mayB a = true) (hb : mayB b = true) (h : called a = called b) (hc : core a = core b) : a = b := rebuild_of _ a b (Nat.le_refl _) ha hb h hc
theorem core_bulk_of (N : Nat) : ∀ v : V, bulk v ≤ N → mayB v = true → bulk (core v) + bulkL (called v) ≤ bulk v := by
  induction N with
  | zero => intro v hN; have := bulk_pos v; omega
  | succ N ih =>
    intro v hN h
    obtain ⟨k, n, t, ks⟩ := v
    by_cases hk : k = 25
    · subst hk
      obtain ⟨x, y, rfl, _, hx, hy⟩ := may_desc h
      have := ih y (by simp only [bulk, bulkL] at hN; omega) hy
      rw [called_desc, core_desc]
      simp only [bulk, bulkL]
      omega
    · rw [called_not hk, core_not hk, bulkL]
      omega
theorem core_bulk (v : V) (h : mayB v = true) : bulk (core v) + bulkL (called v) ≤ bulk v := core_bulk_of _ v (Nat.le_refl _) h
theorem core_n64_of (N : Nat) : ∀ v : V, bulk v ≤ N → mayB v = true → n64 v → n64 (core v) ∧ n64L (called v) ∧ mayL (called v) = true := by
  induction N with
  | zero => intro v hN; have := bulk_pos v; omega
  | succ N ih =>
    intro v hN h h6
    obtain ⟨k, n, t, ks⟩ := v
    by_cases hk : k = 25
    · subst hk
      obtain ⟨x, y, rfl, _, hx, hy⟩ := may_desc h
      have := ih y (by simp only [bulk, bulkL] at hN; omega) hy h6.2.2.1
      rw [called_desc, core_desc]
      exact ⟨this.1, ⟨h6.2.1, this.2.1⟩, by rw [mayL, hx, this.2.2]; rfl⟩
    · rw [called_not hk, core_not hk]
      exact ⟨h6, trivial, rfl⟩
end Go.Proofs.YtikjnbognjicdaaDoor.Enc

namespace Go.Proofs.YtikjnbognjicdaaDoor.Enc
set_option maxRecDepth 100000
open Go.Proofs.YtikjnbognjicdaaDoor.Val V Pl

/-- A value that may be, of numbers of 64 bits, and not too much. -/
def Good (v : V) : Prop := mayB v = true ∧ n64 v ∧ bulk v ≤ 67108864
def GoodL (l : List V) : Prop := mayL l = true ∧ n64L l ∧ bulkL l ≤ 67108864
theorem Good.kids {k n : Nat} {t : ByteArray} {ks : List V} (h : Good (.mk k n t ks)) : GoodL ks := ⟨may_kids h.1, h.2.1.2, by have := h.2.2; simp only [bulk] at this; omega⟩
theorem GoodL.cons {v : V} {r : List V} (h : GoodL (v :: r)) : Good v ∧ GoodL r := by
  obtain ⟨h1, h2, h3⟩ := h
  simp only [mayL, Bool.and_eq_true] at h1
  simp only [bulkL] at h3
  exact ⟨⟨h1.1, h2.1, by omega⟩, h1.2, h2.2, by omega⟩
theorem Good.core {v : V} (h : Good v) : Good (core v) := by
  have h1 := core_bulk v h.1
  exact ⟨core_may v h.1, (core_n64_of _ v (Nat.le_refl _) h.1 h.2.1).1, by have := h.2.2; omega⟩
theorem Good.called {v : V} (h : Good v) : GoodL (called v) := by
  have h1 := core_bulk v h.1
  have h2 := core_n64_of _ v (Nat.le_refl _) h.1 h.2.1
  exact ⟨h2.2.2, h2.2.1, by have := h.2.2; omega⟩

/-- What comes before all that is to be shown of values of less bulk. -/
def InjI (N : Nat) : Prop := ∀ (v w : V) (X Y : List Nat), bulk v ≤ N → Good v → Good w → lay (plan v) ++ X = lay (plan w) ++ Y → v = w ∧ X = Y
def InjD (N : Nat) : Prop := ∀ (c : Nat) (f : Can) (v w : V) (X Y : List Nat), bulk v ≤ N → Good v → Good w → v.kind = w.kind → v.kind ≠ 25 → (c, f) ∈ chs v.kind → can f (rawv v) = true → can f (rawv w) = true → dat c v ++ X = dat c w ++ Y → v = w ∧ X = Y

theorem injL {N : Nat} (h : InjI N) : ∀ (l m : List V) (X Y : List Nat), bulkL l ≤ N → GoodL l → GoodL m → l.length = m.length → layK (planL l) ++ X = layK (planL m) ++ Y → l = m ∧ X = Y
  | [], [], X, Y, _, _, _, _, e => ⟨rfl, by simpa [planL, layK] using e⟩
  | [], _ :: _, _, _, _, _, _, e, _ => by simp at e
  | _ :: _, [], _, _, _, _, _, e, _ => by simp at e
  | a :: l, b :: m, X, Y, hN, hl, hm, hlen, e => by
    simp only [bulkL] at hN
    simp only [planL, layK, List.append_assoc] at e
    obtain ⟨rfl, e2⟩ := h a b _ _ (by omega) hl.cons.1 hm.cons.1 e
    obtain ⟨rfl, e3⟩ := injL h l m X Y (by omega) hl.cons.2 hm.cons.2 (by simpa using hlen) e2
    exact ⟨rfl, e3⟩
theorem injN {N : Nat} (h : InjI N) : ∀ (l m : List V) (c d : Nat) (X Y : List Nat), bulkL l ≤ N → GoodL l → GoodL m → c ≠ 0 → d ≠ 0 → layN (planL l) ++ (c :: X) = layN (planL m) ++ (d :: Y) → l = m ∧ c = d ∧ X = Y
  | [], [], c, d, X, Y, _, _, _, _, _, e => by
    simp only [planL, layN, List.nil_append, List.cons.injEq] at e
    exact ⟨rfl, e.1, e.2⟩
  | [], b :: m, c, d, X, Y, _, _, _, hc, _, e => by
    simp only [planL, layN, List.nil_append, List.cons_append, List.cons.injEq] at e
    exact absurd e.1 hc
  | a :: l, [], c, d, X, Y, _, _, _, _, hd, e => by
    simp only [planL, layN, List.nil_append, List.cons_append, List.cons.injEq] at e
    exact absurd e.1.symm hd
  | a :: l, b :: m, c, d, X, Y, hN, hl, hm, hc, hd, e => by
    simp only [bulkL] at hN
    simp only [planL, layN, List.append_assoc, List.cons_append, List.cons.injEq, true_and] at e
    obtain ⟨rfl, e2⟩ := h a b _ _ (by omega) hl.cons.1 hm.cons.1 e
    obtain ⟨rfl, e3⟩ := injN h l m c d X Y (by omega) hl.cons.2 hm.cons.2 hc hd e2
    exact ⟨rfl, e3⟩
theorem injC {N : Nat} (h : InjD N) (c : Nat) (f : Can) (k : Nat) (hcf : (c, f) ∈ chs k) : ∀ (l m : List V) (X Y : List Nat), bulkL l ≤ N → GoodL l → GoodL m → l.length = m.length → (∀ v ∈ l, (core v).kind = k ∧ can f (plan v) = true) → (∀ v ∈ m, (core v).kind = k ∧ can f (plan v) = true) → datL c l ++ X = datL c m ++ Y → l.map core = m.map core ∧ X = Y
  | [], [], X, Y, _, _, _, _, _, _, e => ⟨rfl, by simpa [datL] using e⟩
  | [], _ :: _, _, _, _, _, _, e, _, _, _ => by simp at e
  | _ :: _, [], _, _, _, _, _, e, _, _, _ => by simp at e
  | a :: l, b :: m, X, Y, hN, hl, hm, hlen, hcl, hcm, e => by
    simp only [bulkL] at hN
    simp only [datL, List.append_assoc] at e
    have ha := hl.cons.1
    have hb := hm.cons.1
    have h1 := hcl a (by simp)
    have h2 := hcm b (by simp)
    have hbk := core_bulk a ha.1
    obtain ⟨e1, e2⟩ := h c f (core a) (core b) _ _ (by omega) ha.core hb.core (h1.1.trans h2.1.symm) (core_ne a ha.1) (by rw [h1.1]; exact hcf) (by rw [← can_core f a ha.1]; exact h1.2) (by rw [← can_core f b hb.1]; exact h2.2) e
    obtain ⟨e3, e4⟩ := injC h c f k hcf l m X Y (by omega) hl.cons.2 hm.cons.2 (by simpa using hlen) (fun v hv => hcl v (by simp [hv])) (fun v hv => hcm v (by simp [hv])) e2
    exact ⟨by rw [List.map_cons, List.map_cons, e1, e3], e4⟩

/-- Numbers. -/
def canN (f : Can) (n : Nat) : Prop := match f with
  | .just m => n = m
  | .upto m => n ≤ m
  | .near => n = sg1 n
  | .all => True
  | _ => False
theorem sg1_near {n : Nat} (h : n = sg1 n) (h6 : n < 18446744073709551616) : n < 128 ∨ 18446744073709551488 ≤ n := by
  unfold sg1 at h
  split at h <;> omega
theorem num_inj {k c n n' : Nat} {f : Can} (hk : 2 ≤ k ∧ k ≤ 14) (h : (c, f) ∈ chs k) (hn : numB k n = true) (hn' : numB k n' = true) (hf : canN f n) (hf' : canN f n') (h6 : n < 18446744073709551616) (h6' : n' < 18446744073709551616) :
    (wid c = 0 → n = n') ∧ (n % 256 ^ wid c = n' % 256 ^ wid c → n = n') := by
  have : k = 2 ∨ k = 3 ∨ k = 4 ∨ k = 5 ∨ k = 6 ∨ k = 7 ∨ k = 8 ∨ k = 9 ∨ k = 10 ∨ k = 11 ∨ k = 12 ∨ k = 13 ∨ k = 14 := by omega
  rcases this with rfl | rfl | rfl | rfl | rfl | rfl | rfl | rfl | rfl | rfl | rfl | rfl | rfl <;>
    simp only [chs, List.mem_cons, Prod.mk.injEq, List.not_mem_nil, or_false] at h <;>
    (try rcases h with ⟨rfl, rfl⟩ | ⟨rfl, rfl⟩ | ⟨rfl, rfl⟩) <;>
    (try rcases h with ⟨rfl, rfl⟩ | ⟨rfl, rfl⟩) <;>
    (try obtain ⟨rfl, rfl⟩ := h) <;>
    (try have q1 : n < 128 ∨ 18446744073709551488 ≤ n := sg1_near hf h6) <;> (try have q2 : n' < 128 ∨ 18446744073709551488 ≤ n' := sg1_near hf' h6') <;>
    simp [numB, canN, wid, sgB, Utf.isC] at * <;> omega

theorem alone1 {n : Nat} {t : ByteArray} {ks : List V} (h : mayB (.mk 1 n t ks) = true) : n = 0 ∧ t = ⟨#[]⟩ ∧ ks = [] := by
  simp only [mayB, Bool.and_eq_true] at h
  have := h.1.2
  simp [aloneOk, emptyB] at this
  exact ⟨this.1.1, (by rw [this.1.2]; rfl), this.2⟩
theorem aloneN {k n : Nat} {t : ByteArray} {ks : List V} (hk : 2 ≤ k ∧ k ≤ 14) (h : mayB (.mk k n t ks) = true) : t = ⟨#[]⟩ ∧ ks = [] ∧ numB k n = true := by
  simp only [mayB, Bool.and_eq_true] at h
  have := h.1.2
  rw [aloneOk, if_neg (by omega), if_pos hk] at this
  simp [emptyB] at this
  exact ⟨(by rw [this.1.1]; rfl), this.1.2, this.2⟩
theorem aloneT {k n : Nat} {t : ByteArray} {ks : List V} (hk : 15 ≤ k ∧ k ≤ 21) (h : mayB (.mk k n t ks) = true) : n = 0 ∧ ks = [] ∧ textB k t = true := by
  simp only [mayB, Bool.and_eq_true] at h
  have := h.1.2
  rw [aloneOk, if_neg (by omega), if_neg (by omega), if_pos hk] at this
  simp at this
  exact ⟨this.1.1, this.1.2, this.2⟩
theorem aloneK {k n : Nat} {t : ByteArray} {ks : List V} (hk : 22 ≤ k ∧ k ≤ 25) (h : mayB (.mk k n t ks) = true) : n = 0 ∧ t = ⟨#[]⟩ := by
  simp only [mayB, Bool.and_eq_true] at h
  have := h.1.2
  rw [aloneOk, if_neg (by omega), if_neg (by omega), if_neg (by omega), if_pos hk] at this
  simp [emptyB] at this
  exact ⟨this.1, (by rw [this.2]; rfl)⟩
theorem fixed_size {k : Nat} {t t' : ByteArray} (hk : 15 ≤ k ∧ k ≤ 18) (h : textB k t = true) (h' : textB k t' = true) : t.size = t'.size := by
  have : k = 15 ∨ k = 16 ∨ k = 17 ∨ k = 18 := by omega
  rcases this with rfl | rfl | rfl | rfl <;> simp [textB] at h h' <;> omega
theorem code_text {k c : Nat} {f : Can} (hk : 15 ≤ k ∧ k ≤ 18) (h : (c, f) ∈ chs k) : wid c ≠ 0 := by
  have : k = 15 ∨ k = 16 ∨ k = 17 ∨ k = 18 := by omega
  rcases this with rfl | rfl | rfl | rfl <;> simp only [chs, List.mem_cons, Prod.mk.injEq, List.not_mem_nil, or_false] at h <;> obtain ⟨rfl, rfl⟩ := h <;> decide
theorem code_long {k c : Nat} {f : Can} (hk : 19 ≤ k ∧ k ≤ 21) (h : (c, f) ∈ chs k) : (wid c = 1 ∧ f = .short) ∨ (wid c = 4 ∧ f = .all) := by
  have : k = 19 ∨ k = 20 ∨ k = 21 := by omega
  rcases this with rfl | rfl | rfl <;> simp only [chs, List.mem_cons, Prod.mk.injEq, List.not_mem_nil, or_false] at h <;> rcases h with ⟨rfl, rfl⟩ | ⟨rfl, rfl⟩ <;> first | exact .inl ⟨by decide, rfl⟩ | exact .inr ⟨by decide, rfl⟩
theorem code_kids {k c : Nat} {f : Can} (hk : 22 ≤ k ∧ k ≤ 24) (h : (c, f) ∈ chs k) : (wid c = 0 ∧ f = .none_ ∧ k = 22) ∨ (wid c = 1 ∧ f = .small) ∨ (wid c = 4 ∧ f = .all) := by
  have : k = 22 ∨ k = 23 ∨ k = 24 := by omega
  rcases this with rfl | rfl | rfl <;> simp only [chs, List.mem_cons, Prod.mk.injEq, List.not_mem_nil, or_false] at h <;> (repeat' (refine Or.elim h (fun h => ?_) (fun h => ?_))) <;> (obtain ⟨rfl, rfl⟩ := h) <;> first | exact .inl ⟨by decide, rfl, rfl⟩ | exact .inr (.inl ⟨by decide, rfl⟩) | exact .inr (.inr ⟨by decide, rfl⟩)
theorem re_bound {k n : Nat} {t : ByteArray} {ks : List V} (h : Good (.mk k n t ks)) : longK (kp k ks) ≤ 40 * bulkL ks + 1 := by
  have hk := h.kids
  have h1 := cap_planL ks hk.1
  have h2 := longK_alike (planL ks)
  have h3 := longK_caps (planL ks)
  unfold kp
  split <;> omega
theorem can_num {k n : Nat} {t : ByteArray} {f : Can} {ks : List V} {c : Nat} (hk : 2 ≤ k ∧ k ≤ 14) (h : (c, f) ∈ chs k) (hc : can f (rawv (.mk k n t ks)) = true) : canN f n := by
  have : k = 2 ∨ k = 3 ∨ k = 4 ∨ k = 5 ∨ k = 6 ∨ k = 7 ∨ k = 8 ∨ k = 9 ∨ k = 10 ∨ k = 11 ∨ k = 12 ∨ k = 13 ∨ k = 14 := by omega
  rcases this with rfl | rfl | rfl | rfl | rfl | rfl | rfl | rfl | rfl | rfl | rfl | rfl | rfl <;>
    simp only [chs, List.mem_cons, Prod.mk.injEq, List.not_mem_nil, or_false] at h <;>
    (repeat' (refine Or.elim h (fun h => ?_) (fun h => ?_))) <;>
    (obtain ⟨rfl, rfl⟩ := h) <;>
    first | exact trivial | (simp only [can, rawv, raw, Pl.num] at hc; simp only [canN]; exact of_decide_eq_true hc)
/-- The code of an array's kids tells all of them. -/
theorem arr_code {n : Nat} {t : ByteArray} {a : V} {r : List V} (h : mayB (.mk 24 n t (a :: r)) = true) : ∃ f, (kcode (a :: r), f) ∈ chs (core a).kind ∧ 1 ≤ (core a).kind ∧ (core a).kind ≤ 24 ∧ ∀ b ∈ a :: r, (core b).kind = (core a).kind ∧ can f (plan b) = true ∧ called b = called a := by
  have hks := may_kids h
  have hma := mayL_mem hks a (by simp)
  have hck := core_kind a hma
  obtain ⟨f, hf, hall⟩ := pick_all hck.1 hck.2 (planL (a :: r))
  have e : kcode (a :: r) = pick (chs (core a).kind) (planL (a :: r)) := by
    rw [← (plan_kind a hma).1]; rfl
  refine ⟨f, e ▸ hf, hck.1, hck.2, fun b hb => ?_⟩
  have hmb := mayL_mem hks b hb
  have hal : alikeB a b = true := by
    simp only [mayB, Bool.and_eq_true] at h
    have hko := h.2
    unfold kidsOk at hko
    rw [if_neg (by omega), if_pos rfl] at hko
    rcases List.mem_cons.1 hb with rfl | hb
    · exact alikeB_refl b hmb
    · exact List.all_eq_true.1 hko b hb
  refine ⟨(alike_core a b hma hmb hal).symm, List.all_eq_true.1 hall _ ?_, (alike_called_of _ a b (Nat.le_refl _) hma hmb hal).symm⟩
  rw [planL_map]
  exact List.mem_map_of_mem hb
theorem rebuildL {x : List V} : ∀ l m : List V, mayL l = true → mayL m = true → (∀ v ∈ l, called v = x) → (∀ v ∈ m, called v = x) → l.map core = m.map core → l = m
  | [], [], _, _, _, _, _ => rfl
  | [], _ :: _, _, _, _, _, e => by simp at e
  | _ :: _, [], _, _, _, _, e => by simp at e
  | a :: l, b :: m, hl, hm, h1, h2, e => by
    simp only [mayL, Bool.and_eq_true] at hl hm
    simp only [List.map_cons, List.cons.injEq] at e
    rw [rebuild hl.1 hm.1 ((h1 a (by simp)).trans (h2 b (by simp)).symm) e.1, rebuildL l m hl.2 hm.2 (fun v hv => h1 v (by simp [hv])) (fun v hv => h2 v (by simp [hv])) e.2]
theorem mod_small {a b W : Nat} (h : a % 256 ^ W = b % 256 ^ W) (ha : a < 256 ^ W) (hb : b < 256 ^ W) : a = b := by rwa [Nat.mod_eq_of_lt ha, Nat.mod_eq_of_lt hb] at h

theorem injD_step (N : Nat) (hI : ∀ M, M < N → InjI M) (hD : ∀ M, M < N → InjD M) : InjD N := by
  intro c f v w X Y hN hv hw hk h25 hcf hfv hfw e
  obtain ⟨k, n, t, ks⟩ := v
  obtain ⟨k', n', t', ks'⟩ := w
  simp only [V.kind] at hk h25 hcf
  subst hk
  have hkk := may_kind hv.1 h25
  simp only [dat] at e
  by_cases k1 : k = 1
  · subst k1
    obtain ⟨rfl, rfl, rfl⟩ := alone1 hv.1
    obtain ⟨rfl, rfl, rfl⟩ := alone1 hw.1
    exact ⟨rfl, List.append_cancel_left e⟩
  by_cases k2 : k ≤ 14
  · obtain ⟨rfl, rfl, hb⟩ := aloneN ⟨by omega, k2⟩ hv.1
    obtain ⟨rfl, rfl, hb'⟩ := aloneN ⟨by omega, k2⟩ hw.1
    have hni := num_inj ⟨by omega, k2⟩ hcf hb hb' (can_num ⟨by omega, k2⟩ hcf hfv) (can_num ⟨by omega, k2⟩ hcf hfw) hv.2.1.1 hw.2.1.1
    unfold dlay at e
    by_cases h0 : wid c = 0
    · simp only [if_pos h0] at e
      rw [hni.1 h0]
      exact ⟨rfl, e⟩
    · simp only [if_neg h0, if_pos (show k < 15 by omega)] at e
      obtain ⟨e1, e2⟩ := app_inj (by rw [be_length, be_length]) e
      rw [hni.2 (be_inj _ _ _ e1)]
      exact ⟨rfl, e2⟩
  by_cases k3 : k ≤ 18
  · obtain ⟨rfl, rfl, hb⟩ := aloneT ⟨by omega, by omega⟩ hv.1
    obtain ⟨rfl, rfl, hb'⟩ := aloneT ⟨by omega, by omega⟩ hw.1
    have hs := fixed_size ⟨by omega, k3⟩ hb hb'
    have h0 := code_text ⟨by omega, k3⟩ hcf
    unfold dlay at e
    simp only [if_neg h0, if_neg (show ¬ k < 15 by omega), if_pos (show k < 19 by omega)] at e
    obtain ⟨e1, e2⟩ := app_inj (by rw [tb_length, tb_length]; exact hs) e
    rw [tb_inj e1]
    exact ⟨rfl, e2⟩
  by_cases k4 : k ≤ 21
  · obtain ⟨rfl, rfl, hb⟩ := aloneT ⟨by omega, by omega⟩ hv.1
    obtain ⟨rfl, rfl, hb'⟩ := aloneT ⟨by omega, by omega⟩ hw.1
    have hz : wid c ≠ 0 ∧ t.size < 256 ^ wid c ∧ t'.size < 256 ^ wid c := by
      have b1 := hv.2.2
      have b2 := hw.2.2
      simp only [bulk] at b1 b2
      rcases code_long ⟨by omega, k4⟩ hcf with ⟨hw1, rfl⟩ | ⟨hw4, rfl⟩
      · rw [hw1]
        have h1 := of_decide_eq_true hfv
        have h2 := of_decide_eq_true hfw
        simp only [rawv, raw, Pl.text] at h1 h2
        omega
      · rw [hw4]
        omega
    unfold dlay at e
    simp only [if_neg hz.1, if_neg (show ¬ k < 15 by omega), if_neg (show ¬ k < 19 by omega), if_pos k4, List.append_assoc] at e
    obtain ⟨e1, e2⟩ := app_inj (by rw [be_length, be_length]) e
    have hs := mod_small (be_inj _ _ _ e1) hz.2.1 hz.2.2
    obtain ⟨e3, e4⟩ := app_inj (by rw [tb_length, tb_length]; exact hs) e2
    rw [tb_inj e3]
    exact ⟨rfl, e4⟩
  obtain ⟨rfl, rfl⟩ := aloneK ⟨by omega, by omega⟩ hv.1
  obtain ⟨rfl, rfl⟩ := aloneK ⟨by omega, by omega⟩ hw.1
  have hr := re_bound hv
  have hr' := re_bound hw
  have hb := hv.2.2
  have hb' := hw.2.2
  have hlen := length_bulk ks
  have hlen' := length_bulk ks'
  simp only [bulk] at hb hb' hN
  have hgl := hv.kids
  have hgm := hw.kids
  by_cases h0 : wid c = 0
  · rcases code_kids ⟨by omega, hkk.2⟩ hcf with ⟨_, rfl, rfl⟩ | ⟨h1, _⟩ | ⟨h1, _⟩
    · have h1 := of_decide_eq_true hfv
      have h2 := of_decide_eq_true hfw
      simp only [rawv, raw, Pl.im] at h1 h2
      obtain rfl := List.eq_nil_of_length_eq_zero h1
      obtain rfl := List.eq_nil_of_length_eq_zero h2
      exact ⟨rfl, List.append_cancel_left e⟩
    · omega
    · omega
  have hz : ks.length < 256 ^ wid c ∧ ks'.length < 256 ^ wid c := by
    rcases code_kids ⟨by omega, hkk.2⟩ hcf with ⟨h1, _⟩ | ⟨hw1, rfl⟩ | ⟨hw4, rfl⟩
    · omega
    · rw [hw1]
      simp only [can, Bool.and_eq_true, decide_eq_true_eq] at hfv hfw
      simp only [rawv, raw, Pl.im] at hfv hfw
      omega
    · rw [hw4]
      omega
  unfold dlay at e
  simp only [if_neg h0, if_neg (show ¬ k < 15 by omega), if_neg (show ¬ k < 19 by omega), if_neg k4, List.append_assoc] at e
  obtain ⟨_, e2⟩ := app_inj (by rw [be_length, be_length]) e
  obtain ⟨e3, e4⟩ := app_inj (by rw [be_length, be_length]) e2
  have hll := mod_small (be_inj _ _ _ e3) hz.1 hz.2
  by_cases k24 : k = 24
  · subst k24
    cases ks with
    | nil =>
      obtain rfl := List.eq_nil_of_length_eq_zero hll.symm
      exact ⟨rfl, List.append_cancel_left e4⟩
    | cons a r =>
      cases ks' with
      | nil => simp at hll
      | cons a' r' =>
        obtain ⟨fa, hfa, ka1, ka2, hall⟩ := arr_code hv.1
        obtain ⟨fb, hfb, kb1, kb2, hall'⟩ := arr_code hw.1
        simp only [kp, if_true] at e4
        rw [layK_alike a r hgl.1, layK_alike a' r' hgm.1, List.append_assoc, List.append_assoc, List.cons_append, List.cons_append] at e4
        have hcb := core_bulk a hgl.cons.1.1
        simp only [bulkL] at hN
        obtain ⟨e5, e6, e7⟩ := injN (hI (N - 1) (by omega)) _ _ _ _ _ _ (by omega) hgl.cons.1.called hgm.cons.1.called (code_pos ka1 ka2 hfa) (code_pos kb1 kb2 hfb) e4
        rw [← e6] at e7 hfb
        obtain ⟨e8, e9⟩ := code_kind ka2 kb2 hfa hfb
        obtain ⟨e10, e11⟩ := injC (hD (N - 1) (by omega)) _ fa (core a).kind hfa (a :: r) (a' :: r') _ _ (by simp only [bulkL]; omega) hgl hgm hll (fun b hb => ⟨(hall b hb).1, (hall b hb).2.1⟩) (fun b hb => ⟨(hall' b hb).1.trans e8.symm, e9 ▸ (hall' b hb).2.1⟩) e7
        rw [rebuildL (x := called a) (a :: r) (a' :: r') hgl.1 hgm.1 (fun b hb => (hall b hb).2.2) (fun b hb => ((hall' b hb).2.2).trans e5.symm) e10]
        exact ⟨rfl, e11⟩
  · simp only [kp, if_neg k24] at e4
    obtain ⟨rfl, e5⟩ := injL (hI (N - 1) (by omega)) ks ks' X Y (by omega) hgl hgm hll e4
    exact ⟨rfl, e5⟩
theorem injI_step (N : Nat) (hI : ∀ M, M < N → InjI M) (hD : InjD N) : InjI N := by
  intro v w X Y hN hv hw e
  obtain ⟨k, n, t, ks⟩ := v
  obtain ⟨k', n', t', ks'⟩ := w
  by_cases hk : k = 25
  · subst hk
    obtain ⟨x, y, rfl, _, hx, hy⟩ := may_desc hv.1
    obtain ⟨rfl, rfl⟩ := desc_plain hv.1
    rw [lay_desc _ _ x y hy] at e
    by_cases hk' : k' = 25
    · subst hk'
      obtain ⟨x', y', rfl, _, hx', hy'⟩ := may_desc hw.1
      obtain ⟨rfl, rfl⟩ := desc_plain hw.1
      rw [lay_desc _ _ x' y' hy', List.cons_append, List.cons_append, List.append_assoc, List.append_assoc] at e
      injection e with _ e
      have hl := hv.kids
      have hl' := hw.kids
      simp only [bulk, bulkL] at hN
      obtain ⟨rfl, e2⟩ := hI (N - 1) (by omega) x x' _ _ (by omega) hl.cons.1 hl'.cons.1 e
      obtain ⟨rfl, e3⟩ := hI (N - 1) (by omega) y y' _ _ (by omega) hl.cons.2.cons.1 hl'.cons.2.cons.1 e2
      exact ⟨rfl, e3⟩
    · rw [lay_core hk', List.cons_append, List.cons_append] at e
      injection e with e _
      have := may_kind hw.1 hk'
      have := pick_ok this.1 this.2 [rawv (.mk k' n' t' ks')]
      omega
  · have hkk := may_kind hv.1 hk
    rw [lay_core hk] at e
    by_cases hk' : k' = 25
    · subst hk'
      obtain ⟨x', y', rfl, _, hx', hy'⟩ := may_desc hw.1
      rw [lay_desc _ _ x' y' hy', List.cons_append, List.cons_append] at e
      injection e with e _
      have := pick_ok hkk.1 hkk.2 [rawv (.mk k n t ks)]
      omega
    · have hkk' := may_kind hw.1 hk'
      rw [lay_core hk', List.cons_append, List.cons_append] at e
      injection e with e1 e2
      obtain ⟨f, hf, ha⟩ := pick_all hkk.1 hkk.2 [rawv (.mk k n t ks)]
      obtain ⟨f', hf', ha'⟩ := pick_all hkk'.1 hkk'.2 [rawv (.mk k' n' t' ks')]
      rw [← e1] at hf' e2
      obtain ⟨rfl, rfl⟩ := code_kind hkk.2 hkk'.2 hf hf'
      simp only [List.all_cons, List.all_nil, Bool.and_true] at ha ha'
      exact hD _ f _ _ X Y hN hv hw rfl hk hf ha ha' e2
theorem inj_all (N : Nat) : InjI N ∧ InjD N := by
  induction N using Nat.strongRecOn with
  | ind N ih =>
    have hD := injD_step N (fun M h => (ih M h).1) fun M h => (ih M h).2
    exact ⟨injI_step N (fun M h => (ih M h).1) hD, hD⟩
/-- Of two values that may be, the bytes of neither begin the other's, with anything behind, if they are not the same. -/
theorem lay_inj {v w : V} {X Y : List Nat} (hv : Good v) (hw : Good w) (e : lay (plan v) ++ X = lay (plan w) ++ Y) : v = w ∧ X = Y := (inj_all _).1 v w X Y (Nat.le_refl _) hv hw e
end Go.Proofs.YtikjnbognjicdaaDoor.Enc
