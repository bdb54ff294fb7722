/-
  Plain mathematics of the statement ValueAlike: arrays of values of one kind, maps of unlike keys. No condition.
-/
import Derived.Test.YtobnbgbijdhjjaaGreatDoorElem
namespace Go.Proofs.YtobnbgbijdhjjaaGreatDoor.valueAlike
set_option maxRecDepth 100000
open Go.RowKit Go.Proofs.YtobnbgbijdhjjaaGreatDoor.Utf Go.Proofs.YtobnbgbijdhjjaaGreatDoor.Val V

/-- Every second one, from the first on. -/
def evens : List V → List V
  | [] => []
  | [x] => [x]
  | x :: _ :: r => x :: evens r
theorem evens_at : ∀ (l : List V) (m : Nat), (evens l)[m]? = l[2 * m]?
  | [], m => by simp [evens]
  | [x], 0 => by simp [evens]
  | [x], m + 1 => by simp [evens, show 2 * (m + 1) = 2 * m + 1 + 1 by omega]
  | x :: y :: r, 0 => by simp [evens]
  | x :: y :: r, m + 1 => by simp [evens, show 2 * (m + 1) = 2 * m + 1 + 1 by omega, evens_at r m]
theorem evens_length : ∀ l : List V, (evens l).length = (l.length + 1) / 2
  | [] => by simp [evens]
  | [x] => by simp [evens]
  | x :: y :: r => by simp only [evens, List.length_cons, evens_length r]; omega
theorem evens_snoc : ∀ (l : List V) (x : V), evens (l ++ [x]) = if l.length % 2 = 0 then evens l ++ [x] else evens l
  | [], x => rfl
  | [y], x => rfl
  | y :: z :: r, x => by
    simp only [List.cons_append, evens, evens_snoc r x, List.length_cons]
    by_cases h : r.length % 2 = 0
    · rw [if_pos h, if_pos (by omega)]
    · rw [if_neg h, if_neg (by omega)]
theorem evens_keys : ∀ l : List V, l.length % 2 = 0 → keysL l = evens l
  | [], _ => rfl
  | [x], h => by simp at h
  | x :: y :: r, h => by
    simp only [List.length_cons] at h
    have := evens_keys r (by omega)
    simp only [keysL, pairsL, List.map_cons, evens] at this ⊢
    rw [this]

/-- No key twice, among the first so many. -/
def unl (l : List V) (j : Nat) : Bool := noDup (evens (l.take j))
theorem unl_zero (l : List V) : unl l 0 = true := rfl
theorem unl_odd {l : List V} {j : Nat} (hj : j < l.length) (h : j % 2 = 1) : unl l (j + 1) = unl l j := by
  unfold unl
  have hx : l[j]? = some l[j] := List.getElem?_eq_getElem hj
  rw [take_snoc hx, evens_snoc, if_neg (by simp; omega)]
theorem unl_even {l : List V} {j : Nat} {x : V} (hx : l[j]? = some x) (h : j % 2 = 0) : unl l (j + 1) = (unl l j && !(evens (l.take j)).any fun y => same x y) := by
  unfold unl
  have hj := (List.getElem?_eq_some_iff.1 hx).1
  rw [take_snoc hx, evens_snoc, if_pos (by simp; omega), noDup_snoc]
/-- Is one of the first so many keys the same? -/
def seen (l : List V) (j m : Nat) (x : V) : Bool := ((evens (l.take j)).take m).any fun y => same x y
theorem seen_zero (l : List V) (j : Nat) (x : V) : seen l j 0 x = false := by simp [seen]
theorem seen_step {l : List V} {j m : Nat} {x y : V} (hy : l[2 * m]? = some y) (h : 2 * m < j) : seen l j (m + 1) x = (seen l j m x || same x y) := by
  have e : (evens (l.take j))[m]? = some y := by
    rw [evens_at, List.getElem?_take]
    rw [if_pos h]; exact hy
  unfold seen
  rw [take_snoc e, List.any_append]
  simp
theorem seen_all {l : List V} {j m : Nat} {x : V} (h : j ≤ 2 * m) : seen l j m x = (evens (l.take j)).any fun y => same x y := by
  unfold seen
  rw [List.take_of_length_le]
  rw [evens_length, List.length_take]
  omega

/-- All of one kind, among the first so many. -/
def alk (k0 : Nat) (l : List V) : Bool := l.all fun v => decide (v.kind = k0)
theorem alk_take {k0 : Nat} {l : List V} {i : Nat} {v : V} (h : l[i]? = some v) : alk k0 (l.take (i + 1)) = (alk k0 (l.take i) && decide (v.kind = k0)) := by
  rw [take_snoc h]; simp [alk]
/-- What the loop goes on with. -/
noncomputable def fine (l : List V) : Bool := l.all fun v => okB v && decide (v.kind ≠ 25) && decide (depth v < 16)
theorem fine_take {l : List V} {i : Nat} {v : V} (h : l[i]? = some v) : fine (l.take (i + 1)) = (fine (l.take i) && (okB v && decide (v.kind ≠ 25) && decide (depth v < 16))) := by
  rw [take_snoc h]; simp [fine]
theorem fine_mem {l : List V} (h : fine l = true) : ∀ v ∈ l, okB v = true ∧ v.kind ≠ 25 ∧ depth v < 16 := by
  intro v hv
  have := List.all_eq_true.1 h v hv
  simp only [Bool.and_eq_true, decide_eq_true_eq] at this
  exact ⟨this.1.1, this.1.2, this.2⟩
theorem fine_may {l : List V} (h : fine l = true) : mayL l = true := by
  induction l with
  | nil => rfl
  | cons x l ih =>
    simp only [mayL, Bool.and_eq_true]
    have hx := (fine_mem h x (by simp)).1
    simp only [okB, Bool.and_eq_true] at hx
    refine ⟨hx.2, ih ?_⟩
    simp only [fine, List.all_cons, Bool.and_eq_true] at h ⊢
    exact h.2
theorem fine_depth {l : List V} (h : fine l = true) : depthL l ≤ 15 := by
  induction l with
  | nil => simp [depthL]
  | cons x l ih =>
    have hx := (fine_mem h x (by simp)).2.2
    have := ih (by simp only [fine, List.all_cons, Bool.and_eq_true] at h ⊢; exact h.2)
    simp only [depthL]; omega
theorem alike_plain {x y : V} (h : x.kind ≠ 25) : alikeB x y = decide (x.kind = y.kind) := by
  obtain ⟨k, n, t, ks⟩ := x
  obtain ⟨k', n', t', ks'⟩ := y
  simp only [kind] at h ⊢
  by_cases e : k = k'
  · subst e; rw [alikeB_plain h]; simp
  · rw [alikeB_kind e]; simp [e]
/-- The first one's kind. -/
def kind0 : List V → Nat
  | [] => 0
  | x :: _ => x.kind
theorem ok_arr {l : List V} (h : fine l = true) : okB (.mk 24 0 ⟨#[]⟩ l) = (alk (kind0 l) l && decide (itemsL l + 1 ≤ 1024)) := by
  have e1 : aloneOk 24 0 ⟨#[]⟩ l.length = true := by simp [aloneOk, emp0]
  have e2 : kidsOk 24 l = alk (kind0 l) l := by
    rw [kidsOk_24]
    cases l with
    | nil => rfl
    | cons x r =>
      have hx := (fine_mem h x (by simp)).2.1
      simp only [allB, alk, kind0]
      have hf : (fun y => alikeB x y) = fun y => decide (y.kind = x.kind) := funext fun y => by
        rw [alike_plain hx, Bool.eq_iff_iff]; simp [eq_comm]
      rw [hf]
      simp
      rfl
  have hd := fine_depth h
  rw [Bool.eq_iff_iff, okB, items_mk, depth_mk]
  simp only [mayB, fine_may h, e1, e2, Bool.and_eq_true, decide_eq_true_eq, Bool.and_true, Bool.true_and]
  constructor
  · rintro ⟨⟨h1, h2⟩, h3⟩; exact ⟨h3, by omega⟩
  · rintro ⟨h1, h2⟩; exact ⟨⟨by omega, by omega⟩, h1⟩
theorem ok_map {l : List V} (h : fine l = true) : okB (.mk 23 0 ⟨#[]⟩ l) = ((decide (l.length % 2 = 0) && unl l l.length) && decide (itemsL l + 1 ≤ 1024)) := by
  have e1 : aloneOk 23 0 ⟨#[]⟩ l.length = true := by simp [aloneOk, emp0]
  have e2 : kidsOk 23 l = (decide (l.length % 2 = 0) && unl l l.length) := by
    rw [kidsOk_23]
    by_cases hl : l.length % 2 = 0
    · unfold unl
      rw [List.take_length, evens_keys l hl]
    · simp [hl]
  have hd := fine_depth h
  rw [Bool.eq_iff_iff, okB, items_mk, depth_mk]
  simp only [mayB, fine_may h, e1, e2, Bool.and_eq_true, decide_eq_true_eq, Bool.and_true, Bool.true_and]
  constructor
  · rintro ⟨⟨h1, h2⟩, h3⟩; exact ⟨h3, by omega⟩
  · rintro ⟨h1, h2⟩; exact ⟨⟨by omega, by omega⟩, h1⟩
end Go.Proofs.YtobnbgbijdhjjaaGreatDoor.valueAlike
