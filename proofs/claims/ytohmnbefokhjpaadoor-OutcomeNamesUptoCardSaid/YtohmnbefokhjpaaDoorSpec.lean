/-
  Which values may be, as plain mathematics.
-/
import Derived.Test.YtohmnbefokhjpaaDoorXplain
namespace Go.Proofs.YtohmnbefokhjpaaDoor.Val
set_option maxRecDepth 100000
open Go.Proofs.YtohmnbefokhjpaaDoor.Utf V

/- Are two values of one kind, and, while they are called something, called the same? -/
mutual
def alikeB : V → V → Bool
  | .mk k _ _ ks, b => decide (k = b.kind) && (decide (k ≠ 25) || alikeL ks b.kids)
def alikeL : List V → List V → Bool
  | x :: r, x' :: r' => same x x' && alikeT r r'
  | _, _ => false
def alikeT : List V → List V → Bool
  | y :: _, y' :: _ => alikeB y y'
  | _, _ => false
end
theorem alikeB_kind {k n k' n' : Nat} {t t' : ByteArray} {ks ks' : List V} (h : k ≠ k') : alikeB (.mk k n t ks) (.mk k' n' t' ks') = false := by simp [alikeB, kind, h]
theorem alikeB_plain {k n n' : Nat} {t t' : ByteArray} {ks ks' : List V} (h : k ≠ 25) : alikeB (.mk k n t ks) (.mk k n' t' ks') = true := by simp [alikeB, kind, h]
theorem alikeB_desc (n n' : Nat) (t t' : ByteArray) (x y x' y' : V) (r r' : List V) : alikeB (.mk 25 n t (x :: y :: r)) (.mk 25 n' t' (x' :: y' :: r')) = (same x x' && alikeB y y') := by simp [alikeB, alikeL, alikeT, kind, kids]

/-- A map's keys, each with what it has. -/
def pairsL : List V → List (V × V)
  | k :: v :: r => (k, v) :: pairsL r
  | _ => []
def keysL (l : List V) : List V := (pairsL l).map (·.1)
def noDup : List V → Bool
  | [] => true
  | x :: r => noDup r && !r.any fun y => same x y

/-- Do a value's kids stand together as its kind asks? -/
def kidsOk (k : Nat) (ks : List V) : Bool :=
  if k = 23 then decide (ks.length % 2 = 0) && noDup (keysL ks)
  else if k = 24 then (match ks with
    | [] => true
    | x :: r => r.all fun y => alikeB x y)
  else if k = 25 then (match ks with
    | [x, _] => nameB x.kind
    | _ => false)
  else true
mutual
/-- May a value be, but for how deep it is, and how much? -/
noncomputable def mayB : V → Bool
  | .mk k n t ks => mayL ks && aloneOk k n t ks.length && kidsOk k ks
noncomputable def mayL : List V → Bool
  | [] => true
  | v :: vs => mayB v && mayL vs
end
/-- May a value be? -/
noncomputable def okB (v : V) : Bool := decide (items v ≤ 1024) && decide (depth v ≤ 16) && mayB v

theorem mayL_append (a b : List V) : mayL (a ++ b) = (mayL a && mayL b) := by
  induction a with
  | nil => simp [mayL]
  | cons x a ih => simp [mayL, ih, Bool.and_assoc]
theorem mayL_take {l : List V} {i : Nat} {v : V} (h : l[i]? = some v) : mayL (l.take (i + 1)) = (mayL (l.take i) && mayB v) := by
  rw [take_snoc h, mayL_append]; simp [mayL]
theorem mayL_mem {l : List V} (h : mayL l = true) : ∀ v ∈ l, mayB v = true := by
  induction l with
  | nil => intro v hv; cases hv
  | cons x l ih =>
    simp only [mayL, Bool.and_eq_true] at h
    intro v hv
    rcases List.mem_cons.1 hv with rfl | hv
    · exact h.1
    · exact ih h.2 v hv
theorem mayL_no {l : List V} {i : Nat} {v : V} (h : l[i]? = some v) (hv : mayB v = false) : mayL l = false := by
  cases hl : mayL l with
  | false => rfl
  | true => rw [mayL_mem hl v (List.mem_of_getElem? h)] at hv; cases hv
/-- A value that is called something, and may be, has two kids. -/
theorem may_desc {n : Nat} {t : ByteArray} {ks : List V} (h : mayB (.mk 25 n t ks) = true) : ∃ x y, ks = [x, y] ∧ nameB x.kind = true ∧ mayB x = true ∧ mayB y = true := by
  simp only [mayB, kidsOk, Bool.and_eq_true] at h
  obtain ⟨⟨h1, _⟩, h2⟩ := h
  rw [if_neg (by decide), if_neg (by decide), if_pos trivial] at h2
  match ks, h1, h2 with
  | [x, y], h1, h2 =>
    simp only [mayL, Bool.and_eq_true] at h1
    exact ⟨x, y, rfl, h2, h1.1, h1.2.1⟩
theorem may_kids {k n : Nat} {t : ByteArray} {ks : List V} (h : mayB (.mk k n t ks) = true) : mayL ks = true := by
  simp only [mayB, Bool.and_eq_true] at h
  exact h.1.1

mutual
theorem alikeB_refl : ∀ v : V, mayB v = true → alikeB v v = true
  | .mk k n t ks, h => by
    by_cases hk : k = 25
    · subst hk
      obtain ⟨x, y, rfl, _, _, hy⟩ := may_desc h
      rw [alikeB_desc, same_self, alikeB_reflL [x, y] (may_kids h) y (by simp), Bool.and_self]
    · exact alikeB_plain hk
theorem alikeB_reflL : ∀ l : List V, mayL l = true → ∀ v ∈ l, alikeB v v = true
  | [], _, _, h => by cases h
  | x :: l, hl, v, h => by
    simp only [mayL, Bool.and_eq_true] at hl
    rcases List.mem_cons.1 h with h | h
    · rw [h]; exact alikeB_refl x hl.1
    · exact alikeB_reflL l hl.2 v h
end
end Go.Proofs.YtohmnbefokhjpaaDoor.Val
