/-
  What fold at int makes of a value, and what holds at the head of its rounds. No condition.
-/
import Derived.Test.YtohmnbefokhjpaaDoorVsame
import Derived.Deep.RegionWith
import Derived.Deep.RegionLaw
namespace Go.Proofs.YtohmnbefokhjpaaDoor.Val
open Go.RowKit Go.Proofs.YtohmnbefokhjpaaDoor.Utf V

theorem vsame_any (k n : Nat) (t : ByteArray) (ks : List V) (A : Option Addr) (l c : Nat) (k' n' : Nat) (t' : ByteArray) (ks' : List V) (A' : Option Addr) (l' c' : Nat) (w : World) (hN : bulkL ks ≤ 1073741824) (hK : Kd w ks A l c) (hK' : Kd w ks' A' l' c') :
    Calls Tryd.prog 33 #[.agg #[.int .u8 k, .int .u64 n, .string t, .slice A l c], .agg #[.int .u8 k', .int .u64 n', .string t', .slice A' l' c']] w (GivesB (same (.mk k n t ks) (.mk k' n' t' ks')) w) := by
  have h := vsame_loop k n t ks A l c k' n' t' ks' A' l' c' w hN hK hK'
  rw [hK.len, hK'.len] at h ⊢
  rw [same_alone]
  exact h

/- What fold makes of a value, beginning with 1. -/
mutual
def foldI (F : Nat → Nat → Nat) : V → Nat
  | .mk _ _ _ ks => finI F ks 1
def finI (F : Nat → Nat → Nat) : List V → Nat → Nat
  | [], s => s
  | v :: vs, s => finI F vs (F s (foldI F v))
end
theorem finI_max : ∀ (ks : List V) (s : Nat), finI (fun a b => max a (b + 1)) ks s = max s (depthL ks + if ks = [] then 0 else 1)
  | [], s => by simp [finI, depthL]
  | .mk k n t ks' :: vs, s => by
    rw [finI, finI_max vs, foldI, finI_max ks' 1]
    simp only [depthL, depth]
    have : depthL vs = 0 ∨ vs ≠ [] := by cases vs <;> simp [depthL]
    have h2 : ks' = [] → depthL ks' = 0 := fun h => by rw [h]; rfl
    have h3 : vs = [] → depthL vs = 0 := fun h => by rw [h]; rfl
    (repeat' split) <;> simp_all <;> omega
theorem foldI_depth (v : V) : foldI (fun a b => max a (b + 1)) v = depth v := by
  cases v with
  | mk k n t ks =>
    rw [foldI, finI_max, depth]
    split
    · rename_i h; subst h; rfl
    · omega
mutual
theorem foldI_items : ∀ v : V, foldI (fun a b => a + b) v = items v
  | .mk _ _ _ ks => by rw [foldI, finI_items ks 1, items]; omega
theorem finI_items : ∀ (ks : List V) (s : Nat), finI (fun a b => a + b) ks s = s + itemsL ks
  | [], s => by simp [finI, itemsL]
  | v :: vs, s => by rw [finI, finI_items vs, foldI_items v, itemsL]; omega
end
/-- What puts together: it never makes more than both. -/
structure PutI (F : Nat → Nat → Nat) (f : FuncId) : Prop where
  le : ∀ a b : Nat, 1 ≤ a → 1 ≤ b → F a b ≤ a + b ∧ 1 ≤ F a b
  call : ∀ a b : Nat, a ≤ 4294967296 → b ≤ 4294967296 → ∀ w : World, Calls Tryd.prog f #[.int .i64 a, .int .i64 b] w fun e w' => e = .returned (.int .i64 ((F a b : Nat) : Int)) ∧ w = w'
def iflat (st : List (SE × Nat)) : List Value := st.flatMap fun p => [p.1.val, .int .i64 (p.2 : Int)]
theorem iflat_len (st : List (SE × Nat)) : (iflat st).length = st.length * 2 := by
  induction st with
  | nil => rfl
  | cons p st ih => simp only [iflat, List.flatMap_cons, List.length_append, List.length_cons, List.length_nil] at ih ⊢; omega
theorem iflat_append (a b : List (SE × Nat)) : iflat (a ++ b) = iflat a ++ iflat b := by simp [iflat]
theorem iflat_one (x : SE) (s : Nat) : iflat [(x, s)] = [x.val, .int .i64 (s : Int)] := rfl
def iweight (st : List (SE × Nat)) : Nat := (st.map fun p => 2 * itemsL p.1.ks + 1).sum
theorem iweight_snoc (st : List (SE × Nat)) (x : SE) (s : Nat) : iweight (st ++ [(x, s)]) = iweight st + 2 * itemsL x.ks + 1 := by simp [iweight]; omega
def isum (st : List (SE × Nat)) : Nat := (st.map fun p => itemsL p.1.ks + p.2).sum
theorem isum_snoc (st : List (SE × Nat)) (x : SE) (s : Nat) : isum (st ++ [(x, s)]) = isum st + (itemsL x.ks + s) := by simp [isum]
def goI (F : Nat → Nat → Nat) (rest : List (SE × Nat)) (v : Nat) : Nat := rest.foldr (fun p v => finI F p.1.ks (F p.2 v)) v
theorem goI_snoc (F : Nat → Nat → Nat) (rest : List (SE × Nat)) (x : SE) (s v : Nat) : goI F (rest ++ [(x, s)]) v = goI F rest (finI F x.ks (F s v)) := by simp [goI]

theorem iset0 (rest : List (SE × Nat)) (x : SE) (s m : Nat) (hl : rest.length = m) (v : Value) : (iflat (rest ++ [(x, s)])).set (m * 2) v = iflat rest ++ [v, .int .i64 (s : Int)] := by
  have hfl : (iflat rest).length = m * 2 := by rw [iflat_len, hl]
  rw [iflat_append, iflat_one, List.set_append_right _ _ (by omega), hfl, Nat.sub_self]
  rfl
theorem iset1 (rest : List (SE × Nat)) (x : SE) (s m : Nat) (hl : rest.length = m) (v : Value) (ys : List Value) : (iflat (rest ++ [(x, s)]) ++ ys).set (m * 2 + 1) v = iflat rest ++ [x.val, v] ++ ys := by
  have hfl : (iflat rest).length = m * 2 := by rw [iflat_len, hl]
  rw [iflat_append, iflat_one, List.append_assoc, List.set_append_right _ _ (by omega), hfl, show m * 2 + 1 - m * 2 = 1 by omega]
  simp
theorem news_at (w : World) (x y : Value) (e : TypeId) (H : Nat) (hH : w.heap.size = H) : ∀ j u, [x, y][j]? = some u → (w.alloc (.cells #[x, y] e)).cell? ((⟨H, 0, none⟩ : Addr).add j) = some u := by
  subst hH
  exact news2 w x y e
theorem iw_len (st : List (SE × Nat)) : st.length ≤ iweight st := by
  induction st with
  | nil => simp
  | cons p r ih => simp [iweight] at ih ⊢; omega

end Go.Proofs.YtohmnbefokhjpaaDoor.Val
