/-
  What fold at int makes of a value, and what holds at the head of its rounds. No condition.
-/
import Derived.Test.YtdbcdabijolagaaDoorVsame
import Derived.Deep.RegionWith
import Derived.Deep.RegionLaw
namespace Go.Proofs.YtdbcdabijolagaaDoor.Val
open Go.RowKit Go.Proofs.YtdbcdabijolagaaDoor.Utf V

theorem vsame_any (k n : Nat) (t : ByteArray) (ks : List V) (A : Option Addr) (l c : Nat) (k' n' : Nat) (t' : ByteArray) (ks' : List V) (A' : Option Addr) (l' c' : Nat) (w : World) (hN : bulkL ks ≤ 1073741824) (hK : Kd w ks A l c) (hK' : Kd w ks' A' l' c') :
    Calls Tryd.prog 18 #[.agg #[.int .u8 k, .int .u64 n, .string t, .slice A l c], .agg #[.int .u8 k', .int .u64 n', .string t', .slice A' l' c']] w (GivesB (same (.mk k n t ks) (.mk k' n' t' ks')) w) := by
  have h := vsame_loop k n t ks A l c k' n' t' ks' A' l' c' w hN hK hK'
  rw [hK.len, hK'.len] at h ⊢
  rw [same_alone]
  exact h

theorem one_any (k n : Nat) (t : ByteArray) (A : Option Addr) (l c : Nat) (w : World) :
    Calls Tryd.prog 41 #[.agg #[.int .u8 k, .int .u64 n, .string t, .slice A l c]] w fun e w' => e = .returned (.int .i64 1) ∧ w.alloc (.cells #[.int .u8 k, .int .u64 n, .string t, .slice A l c] 25) = w' := by
  go_enter Tryd.func41, Tryd.ntmps41
  go_wp2
  go_ret
  exact ⟨rfl, rfl⟩
theorem depthP_any (a b : Nat) (hb : b ≤ 4294967296) (w : World) : Calls Tryd.prog 42 #[.int .i64 a, .int .i64 b] w fun e w' => e = .returned (.int .i64 ((max a (b + 1) : Nat) : Int)) ∧ w = w' := by
  go_enter Tryd.func42, Tryd.ntmps42
  go_wp2
  all_goals
    go_ret
    exact ⟨ret_int (by omega), rfl⟩
theorem itemsP_any (a b : Nat) (ha : a ≤ 4294967296) (hb : b ≤ 4294967296) (w : World) : Calls Tryd.prog 43 #[.int .i64 a, .int .i64 b] w fun e w' => e = .returned (.int .i64 ((a + b : Nat) : Int)) ∧ w = w' := by
  go_enter Tryd.func43, Tryd.ntmps43
  go_wp2
  go_ret
  exact ⟨ret_int (by omega), rfl⟩

/- What fold makes of a value, beginning with 1. -/
mutual
def foldI (F : Nat → Nat → Nat) : V → Nat
  | .mk _ _ _ ks => finI F ks 1
def finI (F : Nat → Nat → Nat) : List V → Nat → Nat
  | [], s => s
  | v :: vs, s => finI F vs (F s (foldI F v))
end
theorem finI_max : ∀ (ks : List V) (s : Nat), finI (fun a b => max a (b + 1)) ks s = max s (depthL ks + if ks = [] then 0 else 1)
  | [], s => by simp [finI, depthL]
  | .mk k n t ks' :: vs, s => by
    rw [finI, finI_max vs, foldI, finI_max ks' 1]
    simp only [depthL, depth]
    have : depthL vs = 0 ∨ vs ≠ [] := by cases vs <;> simp [depthL]
    have h2 : ks' = [] → depthL ks' = 0 := fun h => by rw [h]; rfl
    have h3 : vs = [] → depthL vs = 0 := fun h => by rw [h]; rfl
    (repeat' split) <;> simp_all <;> omega
theorem foldI_depth (v : V) : foldI (fun a b => max a (b + 1)) v = depth v := by
  cases v with
  | mk k n t ks =>
    rw [foldI, finI_max, depth]
    split
    · rename_i h; subst h; rfl
    · omega
mutual
theorem foldI_items : ∀ v : V, foldI (fun a b => a + b) v = items v
  | .mk _ _ _ ks => by rw [foldI, finI_items ks 1, items]; omega
theorem finI_items : ∀ (ks : List V) (s : Nat), finI (fun a b => a + b) ks s = s + itemsL ks
  | [], s => by simp [finI, itemsL]
  | v :: vs, s => by rw [finI, finI_items vs, foldI_items v, itemsL]; omega
end
/-- What puts together: it never makes more than both. -/
structure PutI (F : Nat → Nat → Nat) (f : FuncId) : Prop where
  le : ∀ a b : Nat, 1 ≤ a → 1 ≤ b → F a b ≤ a + b ∧ 1 ≤ F a b
  call : ∀ a b : Nat, a ≤ 4294967296 → b ≤ 4294967296 → ∀ w : World, Calls Tryd.prog f #[.int .i64 a, .int .i64 b] w fun e w' => e = .returned (.int .i64 ((F a b : Nat) : Int)) ∧ w = w'
theorem put_depth : PutI (fun a b => max a (b + 1)) 42 := ⟨fun a b h h' => by omega, fun a b _ hb w => depthP_any a b hb w⟩
theorem put_items : PutI (fun a b => a + b) 43 := ⟨fun a b h h' => by omega, fun a b ha hb w => itemsP_any a b ha hb w⟩

def iflat (st : List (SE × Nat)) : List Value := st.flatMap fun p => [p.1.val, .int .i64 (p.2 : Int)]
theorem iflat_len (st : List (SE × Nat)) : (iflat st).length = st.length * 2 := by
  induction st with
  | nil => rfl
  | cons p st ih => simp only [iflat, List.flatMap_cons, List.length_append, List.length_cons, List.length_nil] at ih ⊢; omega
theorem iflat_append (a b : List (SE × Nat)) : iflat (a ++ b) = iflat a ++ iflat b := by simp [iflat]
theorem iflat_one (x : SE) (s : Nat) : iflat [(x, s)] = [x.val, .int .i64 (s : Int)] := rfl
def iweight (st : List (SE × Nat)) : Nat := (st.map fun p => 2 * itemsL p.1.ks + 1).sum
theorem iweight_snoc (st : List (SE × Nat)) (x : SE) (s : Nat) : iweight (st ++ [(x, s)]) = iweight st + 2 * itemsL x.ks + 1 := by simp [iweight]; omega
def isum (st : List (SE × Nat)) : Nat := (st.map fun p => itemsL p.1.ks + p.2).sum
theorem isum_snoc (st : List (SE × Nat)) (x : SE) (s : Nat) : isum (st ++ [(x, s)]) = isum st + (itemsL x.ks + s) := by simp [isum]
def goI (F : Nat → Nat → Nat) (rest : List (SE × Nat)) (v : Nat) : Nat := rest.foldr (fun p v => finI F p.1.ks (F p.2 v)) v
theorem goI_snoc (F : Nat → Nat → Nat) (rest : List (SE × Nat)) (x : SE) (s v : Nat) : goI F (rest ++ [(x, s)]) v = goI F rest (finI F x.ks (F s v)) := by simp [goI]

/-- What holds at the head of a round: the stack lies in memory, and the answer is what comes of what is left. -/
structure IS (F : Nat → Nat → Nat) (w wr : World) (A : Option Addr) (n c : Nat) (rest : List (SE × Nat)) (x : SE) (s : Nat) (q g : Nat) : Prop where
  len : rest.length + 1 = n
  own : wr.ownsRow w.heap.size 66 2 (.slice A n c) n (iflat (rest ++ [(x, s)]))
  ok : ∀ p ∈ rest ++ [(x, s)], Kids false wr (fun i => i < w.heap.size) p.1.ks p.1.A p.1.l p.1.c ∧ 1 ≤ p.2
  hq : q = goI F rest (finI F x.ks s)
  hg : iweight (rest ++ [(x, s)]) ≤ g
  sum : isum (rest ++ [(x, s)]) ≤ 1073741825
  below : Below w.heap.size w wr
  small : n ≤ g ∧ g ≤ 4294967296

theorem infoStepI : (Tryd.prog.info? 66).map (fun i => (i.zero, i.size, i.bytes)) = some (some (.agg #[.slice none 0 0, .int .i64 0]), 2, 32) := by kernel_rfl

theorem IS.call {F : Nat → Nat → Nat} {w wr w' : World} {A : Option Addr} {n c : Nat} {rest : List (SE × Nat)} {x : SE} {s q g : Nat} (h : IS F w wr A n c rest x s q g) (hb : Below wr.heap.size wr w') : IS F w w' A n c rest x s q g :=
  ⟨h.len, h.own.kept (grown_of_below hb) (by cases hv : (Value.slice A n c).ownBlock <;> simp), fun p hp => by
    obtain ⟨h1, h3⟩ := h.ok p hp
    exact ⟨h1.keep fun i hi => hb.block i (Nat.lt_of_lt_of_le hi h.below.size), h3⟩, h.hq, h.hg, h.sum, below_next h.below hb, h.small⟩
theorem IS.drew {F : Nat → Nat → Nat} {w wr : World} {A : Option Addr} {n c : Nat} {rest : List (SE × Nat)} {x : SE} {s q g : Nat} (h : IS F w wr A n c rest x s q g) : IS F w wr.drew A n c rest x s q g := h.call (Below.refl _ _).drew

theorem iset0 (rest : List (SE × Nat)) (x : SE) (s m : Nat) (hl : rest.length = m) (v : Value) : (iflat (rest ++ [(x, s)])).set (m * 2) v = iflat rest ++ [v, .int .i64 (s : Int)] := by
  have hfl : (iflat rest).length = m * 2 := by rw [iflat_len, hl]
  rw [iflat_append, iflat_one, List.set_append_right _ _ (by omega), hfl, Nat.sub_self]
  rfl
theorem iset1 (rest : List (SE × Nat)) (x : SE) (s m : Nat) (hl : rest.length = m) (v : Value) (ys : List Value) : (iflat (rest ++ [(x, s)]) ++ ys).set (m * 2 + 1) v = iflat rest ++ [x.val, v] ++ ys := by
  have hfl : (iflat rest).length = m * 2 := by rw [iflat_len, hl]
  rw [iflat_append, iflat_one, List.append_assoc, List.set_append_right _ _ (by omega), hfl, show m * 2 + 1 - m * 2 = 1 by omega]
  simp
theorem news_at (w : World) (x y : Value) (e : TypeId) (H : Nat) (hH : w.heap.size = H) : ∀ j u, [x, y][j]? = some u → (w.alloc (.cells #[x, y] e)).cell? ((⟨H, 0, none⟩ : Addr).add j) = some u := by
  subst hH
  exact news2 w x y e
theorem iw_len (st : List (SE × Nat)) : st.length ≤ iweight st := by
  induction st with
  | nil => simp
  | cons p r ih => simp [iweight] at ih ⊢; omega

/-- A value's kids are all through: what came of it is put to the one above. -/
theorem IS.pop {F : Nat → Nat → Nat} (hF : ∀ a b, 1 ≤ a → 1 ≤ b → F a b ≤ a + b ∧ 1 ≤ F a b) {w wr : World} {G m c : Nat} {rest : List (SE × Nat)} {x' x : SE} {s' s q g : Nat} (h : IS F w wr (some ⟨G, 0, none⟩) (m + 2) c (rest ++ [(x', s')]) x s q g)
    (hl : rest.length = m) (hG : w.heap.size ≤ G) (hx : x.l = 0) : IS F w (wr.setCell ⟨G, m * 2 + 1, none⟩ (.int .i64 ((F s' s : Nat) : Int))) (some ⟨G, 0, none⟩) (m + 1) c rest x' (F s' s) q (g - 1) := by
  obtain ⟨h1, h2⟩ := h.ok (x, s) (by simp)
  obtain ⟨h3, h4⟩ := h.ok (x', s') (by simp)
  have e1 : x.ks = [] := List.eq_nil_of_length_eq_zero (by rw [← h1.len]; exact hx)
  have hown := (h.own.stored (m * 2 + 1) (.int .i64 ((F s' s : Nat) : Int))).1
  rw [iflat_append _ [(x, s)], iset1 rest x' s' m hl] at hown
  have hown2 := own_pop hown (m := m + 1) (by simp [iflat_len, hl]; omega) (by omega)
  have hg := h.hg
  rw [iweight_snoc] at hg
  have hs := h.small
  have hsum := h.sum
  rw [isum_snoc, isum_snoc] at hsum
  have hf := hF s' s h4 h2
  have hil := iw_len (rest ++ [(x', s')])
  rw [List.length_append, hl] at hil
  simp only [List.length_cons, List.length_nil] at hil
  have hw2 := hg
  rw [iweight_snoc] at hil hw2
  refine ⟨by omega, by rw [iflat_append, iflat_one]; exact hown2, fun p hp => ?_, ?_, by rw [iweight_snoc]; omega, by rw [isum_snoc]; omega, h.below.setCell (p := ⟨G, m * 2 + 1, none⟩) hG _, by omega⟩
  · have hk : ∀ i, i < w.heap.size → (wr.setCell ⟨G, m * 2 + 1, none⟩ (.int .i64 ((F s' s : Nat) : Int))).heap[i]? = wr.heap[i]? := fun i hi => Below.heap_setCell _ _ _ _ (show i ≠ G by omega)
    rcases List.mem_append.1 hp with hp | hp
    · obtain ⟨a1, a2⟩ := h.ok p (by simp [hp])
      exact ⟨a1.keep hk, a2⟩
    · simp at hp
      subst hp
      exact ⟨h3.keep hk, hf.2⟩
  · rw [h.hq, goI_snoc, e1, finI]

/-- The next kid is gone into. -/
theorem IS.push {F : Nat → Nat → Nat} {w wr w6 : World} {G m c : Nat} {rest : List (SE × Nat)} {x x2 y : SE} {s q g : Nat} {kk kn : Nat} {kt : ByteArray} (h : IS F w wr (some ⟨G, 0, none⟩) (m + 1) c rest x s q g)
    (hx2 : Kids false w6 (fun i => i < w.heap.size) x2.ks x2.A x2.l x2.c) (hy : Kids false w6 (fun i => i < w.heap.size) y.ks y.A y.l y.c) (hks : x.ks = .mk kk kn kt y.ks :: x2.ks) {g' cap : Nat}
    (hown : w6.ownsRow w.heap.size 66 2 (.slice (some ⟨g', 0, none⟩) (m + 1 + 1) cap) (m + 1 + 1) (iflat rest ++ [x2.val, .int .i64 (s : Int)] ++ [y.val, .int .i64 1])) (hb : Below w.heap.size wr w6) :
    IS F w w6 (some ⟨g', 0, none⟩) (m + 1 + 1) cap (rest ++ [(x2, s)]) y 1 q (g - 1) := by
  have hg := h.hg
  rw [iweight_snoc, hks] at hg
  simp only [itemsL, items] at hg
  have hs := h.small
  have hsum := h.sum
  rw [isum_snoc, hks] at hsum
  simp only [itemsL, items] at hsum
  obtain ⟨_, hs1⟩ := h.ok (x, s) (by simp)
  have hil := iw_len rest
  have hl := h.len
  refine ⟨by simp; omega, by rw [iflat_append, iflat_append, iflat_one, iflat_one]; exact hown, fun p hp => ?_, ?_, by rw [iweight_snoc, iweight_snoc]; omega, by rw [isum_snoc, isum_snoc]; omega, h.below.trans hb, by omega⟩
  · have hk : ∀ i, i < w.heap.size → w6.heap[i]? = wr.heap[i]? := fun i hi => hb.block i hi
    simp only [List.append_assoc, List.mem_append, List.mem_cons, List.not_mem_nil, or_false] at hp
    rcases hp with hp | rfl | rfl
    · obtain ⟨a1, a2⟩ := h.ok p (by simp [hp])
      exact ⟨a1.keep hk, a2⟩
    · exact ⟨hx2, hs1⟩
    · exact ⟨hy, Nat.le_refl _⟩
  · rw [h.hq, hks, goI_snoc, finI, foldI]

end Go.Proofs.YtdbcdabijolagaaDoor.Val
