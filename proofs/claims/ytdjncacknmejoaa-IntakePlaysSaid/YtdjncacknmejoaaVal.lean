/-
  Values as trees, as plain mathematics: how many parts one has, how deep it is, whether two are the same. No Go in it.
-/
namespace Go.Proofs.Ytdjncacknmejoaa.Val

inductive V where
  | mk (k n : Nat) (t : ByteArray) (kids : List V)

namespace V
def kind : V → Nat | .mk k _ _ _ => k
def num : V → Nat | .mk _ n _ _ => n
def text : V → ByteArray | .mk _ _ t _ => t
def kids : V → List V | .mk _ _ _ ks => ks
theorem eta (v : V) : v = .mk v.kind v.num v.text v.kids := by cases v; rfl

mutual
def items : V → Nat
  | .mk _ _ _ ks => itemsL ks + 1
def itemsL : List V → Nat
  | [] => 0
  | v :: vs => items v + itemsL vs
end
mutual
def depth : V → Nat
  | .mk _ _ _ ks => depthL ks + 1
def depthL : List V → Nat
  | [] => 0
  | v :: vs => max (depth v) (depthL vs)
end
mutual
/-- How much there is in a value: its parts, and the bytes of its texts. -/
def bulk : V → Nat
  | .mk _ _ t ks => bulkL ks + t.size + 1
def bulkL : List V → Nat
  | [] => 0
  | v :: vs => bulk v + bulkL vs
end
mutual
def same : V → V → Bool
  | .mk k n t ks, .mk k' n' t' ks' => k == k' && n == n' && t.data.toList == t'.data.toList && sameL ks ks'
def sameL : List V → List V → Bool
  | [], [] => true
  | a :: as, b :: bs => same a b && sameL as bs
  | _, _ => false
end

theorem ba_ext {s t : ByteArray} : s.data.toList = t.data.toList ↔ s = t :=
  ⟨fun h => by cases s; cases t; simp at h; simp [h], fun h => by rw [h]⟩

mutual
theorem same_iff : ∀ a b : V, same a b = true ↔ a = b
  | .mk k n t ks, .mk k' n' t' ks' => by
    simp only [same, Bool.and_eq_true, beq_iff_eq, sameL_iff ks ks', ba_ext, V.mk.injEq, and_assoc]
theorem sameL_iff : ∀ a b : List V, sameL a b = true ↔ a = b
  | [], [] => by simp [sameL]
  | [], _ :: _ => by simp [sameL]
  | _ :: _, [] => by simp [sameL]
  | a :: as, b :: bs => by simp [sameL, same_iff a b, sameL_iff as bs]
end
theorem same_self (a : V) : same a a = true := (same_iff a a).2 rfl
theorem same_no {a b : V} (h : a ≠ b) : same a b = false := by
  cases hs : same a b with
  | false => rfl
  | true => exact absurd ((same_iff a b).1 hs) h
theorem same_comm (a b : V) : same a b = same b a := by
  by_cases h : a = b
  · rw [h]
  · rw [same_no h, same_no (Ne.symm h)]
instance : DecidableEq V := fun a b => if h : same a b = true then isTrue ((same_iff a b).1 h) else isFalse fun e => h ((same_iff a b).2 e)

theorem items_pos (v : V) : 0 < items v := by cases v; simp [items]
theorem depth_pos (v : V) : 0 < depth v := by cases v; simp [depth]
theorem bulk_pos (v : V) : 0 < bulk v := by cases v; simp [bulk]
theorem itemsL_append (a b : List V) : itemsL (a ++ b) = itemsL a + itemsL b := by
  induction a with
  | nil => simp [itemsL]
  | cons x a ih => simp [itemsL, ih]; omega
theorem depthL_append (a b : List V) : depthL (a ++ b) = max (depthL a) (depthL b) := by
  induction a with
  | nil => simp [depthL]
  | cons x a ih => simp [depthL, ih]
theorem bulkL_append (a b : List V) : bulkL (a ++ b) = bulkL a + bulkL b := by
  induction a with
  | nil => simp [bulkL]
  | cons x a ih => simp [bulkL, ih]; omega
mutual
theorem items_le : ∀ v : V, items v ≤ bulk v
  | .mk _ _ t ks => by have := itemsL_le ks; simp only [items, bulk]; omega
theorem itemsL_le : ∀ l : List V, itemsL l ≤ bulkL l
  | [] => by simp [itemsL, bulkL]
  | v :: vs => by have := items_le v; have := itemsL_le vs; simp only [itemsL, bulkL]; omega
end
mutual
theorem depth_le : ∀ v : V, depth v ≤ items v
  | .mk _ _ t ks => by have := depthL_le ks; simp only [items, depth]; omega
theorem depthL_le : ∀ l : List V, depthL l ≤ itemsL l
  | [] => by simp [itemsL, depthL]
  | v :: vs => by have := depth_le v; have := depthL_le vs; simp only [itemsL, depthL]; omega
end
theorem length_le (l : List V) : l.length ≤ itemsL l := by
  induction l with
  | nil => simp [itemsL]
  | cons x l ih => have := items_pos x; simp [itemsL]; omega
theorem length_bulk (l : List V) : l.length ≤ bulkL l := Nat.le_trans (length_le l) (itemsL_le l)
theorem mem_bulk {v : V} {l : List V} (h : v ∈ l) : bulk v ≤ bulkL l := by
  induction l with
  | nil => cases h
  | cons x l ih =>
    rcases List.mem_cons.1 h with rfl | h
    · simp [bulkL]
    · have := ih h; simp [bulkL]; omega
theorem at_bulk {v : V} {l : List V} {i : Nat} (h : l[i]? = some v) : bulk v ≤ bulkL l := mem_bulk (List.mem_of_getElem? h)
theorem kids_bulk (v : V) : bulkL v.kids < bulk v := by cases v; simp [kids, bulk]; omega
theorem text_bulk (v : V) : v.text.size < bulk v := by cases v; simp [text, bulk]; omega
theorem take_snoc {l : List V} {i : Nat} {v : V} (h : l[i]? = some v) : l.take (i + 1) = l.take i ++ [v] := by
  rw [List.take_add_one, h]; rfl
theorem drop_at {l : List V} {i : Nat} {v : V} (h : l[i]? = some v) : l.drop i = v :: l.drop (i + 1) := by
  obtain ⟨hi, rfl⟩ := List.getElem?_eq_some_iff.1 h
  exact List.drop_eq_getElem_cons hi
theorem itemsL_take {l : List V} {i : Nat} {v : V} (h : l[i]? = some v) : itemsL (l.take (i + 1)) = itemsL (l.take i) + items v := by
  rw [take_snoc h, itemsL_append]; simp [itemsL]
theorem depthL_take {l : List V} {i : Nat} {v : V} (h : l[i]? = some v) : depthL (l.take (i + 1)) = max (depthL (l.take i)) (depth v) := by
  rw [take_snoc h, depthL_append]; simp [depthL]
theorem itemsL_take_le (l : List V) (i : Nat) : itemsL (l.take i) ≤ itemsL l := by
  have := itemsL_append (l.take i) (l.drop i); rw [List.take_append_drop] at this; omega
theorem depthL_take_le (l : List V) (i : Nat) : depthL (l.take i) ≤ depthL l := by
  have := depthL_append (l.take i) (l.drop i); rw [List.take_append_drop] at this; omega
theorem bulkL_take_le (l : List V) (i : Nat) : bulkL (l.take i) ≤ bulkL l := by
  have := bulkL_append (l.take i) (l.drop i); rw [List.take_append_drop] at this; omega
theorem sameL_no {a b : List V} {i : Nat} {x y : V} (hx : a[i]? = some x) (hy : b[i]? = some y) (h : x ≠ y) : a ≠ b := fun e => h (by subst e; rw [hx] at hy; injection hy)
end V
end Go.Proofs.Ytdjncacknmejoaa.Val
