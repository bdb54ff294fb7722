/-
  Tables as plain mathematics: of each number, is it held; the lowest that is not; those that are. No Go in it. No other condition.
-/
import Derived.Lib.SlKeysI
namespace Go.Proofs.Ytnbofokdhkoglaa.Tb
open Go.Maps

/-- Is a number held? -/
def hasT (L : List Bool) (n : Int) : Bool := decide (0 ≤ n) && L.getD n.toNat false
/-- May a number be held now? -/
def mayT (L : List Bool) (n : Int) : Bool := decide (0 ≤ n) && decide (n < L.length) && !hasT L n
/-- The lowest that is not held; if there is none, how many there are. -/
def lowT (L : List Bool) : Nat := L.idxOf false
/-- Those that are held, rising. -/
def allT (L : List Bool) : List Nat := (List.range L.length).filter fun i => L.getD i false
def intT (L : List Bool) : List Int := (allT L).map Int.ofNat
/-- A step: what is held behind it, and what is answered. -/
def rowT (L : List Bool) (k n : Int) : List Bool :=
  if k = 0 then (if mayT L n then L.set n.toNat true else L)
  else if k = 1 then (if lowT L < L.length then L.set (lowT L) true else L)
  else if k = 2 then (if hasT L n then L.set n.toNat false else L) else L
def numT (L : List Bool) (k : Int) : Nat := if k = 1 then (if lowT L < L.length then lowT L else 0) else 0
def isT (L : List Bool) (k n : Int) : Bool :=
  if k = 0 then mayT L n else if k = 1 then decide (lowT L < L.length) else if k = 2 then hasT L n else true

section
variable {L : List Bool} {n : Int}
theorem hasT_nat (L : List Bool) (j : Nat) : hasT L (j : Int) = L.getD j false := by
  unfold hasT
  simp
theorem hasT_neg (h : n < 0) : hasT L n = false := by
  unfold hasT
  simp [show ¬ 0 ≤ n by omega]
theorem hasT_far (h : (L.length : Int) ≤ n) : hasT L n = false := by
  unfold hasT
  rw [List.getD_eq_getElem?_getD, List.getElem?_eq_none (by omega)]
  simp
theorem hasT_in (h : hasT L n = true) : 0 ≤ n ∧ n < L.length := by
  refine ⟨?_, ?_⟩
  · by_cases h0 : n < 0
    · rw [hasT_neg h0] at h; cases h
    · omega
  · by_cases h0 : (L.length : Int) ≤ n
    · rw [hasT_far h0] at h; cases h
    · omega
theorem hasT_set {i : Nat} (hi : i < L.length) (b : Bool) (n : Int) : hasT (L.set i b) n = if n = (i : Int) then b else hasT L n := by
  by_cases h : n = (i : Int)
  · subst h
    rw [if_pos rfl, hasT_nat, List.getD_eq_getElem?_getD, List.getElem?_set_self hi]
    rfl
  · rw [if_neg h]
    unfold hasT
    by_cases h0 : 0 ≤ n
    · rw [List.getD_eq_getElem?_getD, List.getElem?_set_ne (by omega), ← List.getD_eq_getElem?_getD]
    · simp [h0]
theorem mayT_iff : mayT L n = true ↔ 0 ≤ n ∧ n < L.length ∧ hasT L n = false := by
  unfold mayT
  simp [and_assoc]
theorem low_le (L : List Bool) : lowT L ≤ L.length := List.idxOf_le_length
theorem low_held {j : Nat} (h : j < lowT L) : L[j]? = some true := by
  have h1 : j < L.length := Nat.lt_of_lt_of_le h (low_le L)
  rw [List.getElem?_eq_getElem h1]
  congr 1
  have := List.not_of_lt_findIdx (p := (· == false)) (xs := L) (i := j) h
  simpa using this
theorem low_free (h : lowT L < L.length) : L[lowT L]? = some false := by
  rw [List.getElem?_eq_getElem h]
  congr 1
  have := List.findIdx_getElem (p := (· == false)) (xs := L) (w := h)
  exact eq_of_beq (show (L[lowT L] == false) = true from this)
theorem low_has {j : Nat} (h : j < lowT L) : hasT L (j : Int) = true := by
  rw [hasT_nat, List.getD_eq_getElem?_getD, low_held h]
  rfl
theorem low_not : hasT L (lowT L : Int) = false := by
  by_cases h : lowT L < L.length
  · rw [hasT_nat, List.getD_eq_getElem?_getD, low_free h]
    rfl
  · exact hasT_far (by omega)
/-- A number below which all are held, and which is not, is the lowest. -/
theorem low_is {k : Nat} (h : ∀ j, j < k → hasT L (j : Int) = true) (hk : hasT L (k : Int) = false) : lowT L = k := by
  rcases Nat.lt_trichotomy (lowT L) k with h1 | h1 | h1
  · have := h _ h1
    rw [low_not] at this
    cases this
  · exact h1
  · have := low_has h1
    rw [hk] at this
    cases this
theorem low_lt {k : Nat} (h : ∀ j, j < k → hasT L (j : Int) = true) : k ≤ lowT L := by
  rcases Nat.lt_or_ge (lowT L) k with h1 | h1
  · have := h _ h1
    rw [low_not] at this
    cases this
  · exact h1
theorem mem_all {j : Nat} : j ∈ allT L ↔ hasT L (j : Int) = true := by
  unfold allT
  rw [List.mem_filter, List.mem_range, hasT_nat]
  constructor
  · exact fun h => h.2
  · intro h
    refine ⟨?_, h⟩
    rcases Nat.lt_or_ge j L.length with h1 | h1
    · exact h1
    · rw [List.getD_eq_getElem?_getD, List.getElem?_eq_none h1] at h
      cases h
theorem all_sorted (L : List Bool) : (allT L).Pairwise (· < ·) := List.pairwise_lt_range.filter _
theorem all_len (L : List Bool) : (allT L).length ≤ L.length := by
  unfold allT
  refine Nat.le_trans (List.length_filter_le _ _) ?_
  simp
theorem mem_int {x : Int} : x ∈ intT L ↔ hasT L x = true := by
  unfold intT
  rw [List.mem_map]
  constructor
  · rintro ⟨j, hj, rfl⟩
    exact mem_all.1 hj
  · intro h
    obtain ⟨h0, _⟩ := hasT_in h
    obtain ⟨j, rfl⟩ := Int.eq_ofNat_of_zero_le h0
    exact ⟨j, mem_all.2 h, rfl⟩
theorem int_sorted (L : List Bool) : (intT L).Pairwise (· < ·) := by
  unfold intT
  rw [List.pairwise_map]
  exact (all_sorted L).imp fun h => by simpa using h
theorem int_len (L : List Bool) : (intT L).length = (allT L).length := by simp [intT]
theorem int_nodup (L : List Bool) : (intT L).Nodup := (int_sorted L).imp fun h e => by omega
theorem int_sort (L : List Bool) : (intT L).mergeSort leI = intT L := by
  refine List.mergeSort_of_pairwise ((int_sorted L).imp fun {a b} h => ?_)
  simp only [leI, decide_eq_true_eq]
  omega
theorem len_row (L : List Bool) (k n : Int) : (rowT L k n).length = L.length := by
  unfold rowT
  repeat' split
  all_goals simp
/-- What follows for how many are held. -/
theorem all_set_true {i : Nat} (hi : i < L.length) (h : hasT L (i : Int) = false) : (allT (L.set i true)).length = (allT L).length + 1 := by
  have h1 : (intT (L.set i true)).Perm ((i : Int) :: intT L) := by
    refine (List.perm_ext_iff_of_nodup (int_nodup _) ?_).2 fun x => ?_
    · refine List.nodup_cons.2 ⟨fun hm => ?_, int_nodup _⟩
      rw [mem_int, h] at hm
      cases hm
    · rw [mem_int, hasT_set hi, List.mem_cons, mem_int]
      by_cases hx : x = (i : Int) <;> simp [hx]
  have h2 := h1.length_eq
  simp [int_len] at h2
  exact h2
theorem all_set_false {i : Nat} (hi : i < L.length) (h : hasT L (i : Int) = true) : (allT (L.set i false)).length + 1 = (allT L).length := by
  have h1 : (intT L).Perm ((i : Int) :: intT (L.set i false)) := by
    refine (List.perm_ext_iff_of_nodup (int_nodup _) ?_).2 fun x => ?_
    · refine List.nodup_cons.2 ⟨fun hm => ?_, int_nodup _⟩
      rw [mem_int, hasT_set hi] at hm
      simp at hm
    · rw [mem_int, List.mem_cons, mem_int, hasT_set hi]
      by_cases hx : x = (i : Int)
      · subst hx; simp [h]
      · simp [hx]
  have h2 := h1.length_eq
  simp [int_len] at h2
  exact h2.symm
/-- All are held just where none is the lowest that is not. -/
theorem all_full (h : lowT L = L.length) : (allT L).length = L.length := by
  unfold allT
  rw [List.filter_eq_self.2 fun i hi => ?_]
  · simp
  · rw [List.mem_range] at hi
    rw [← hasT_nat]
    exact low_has (by omega)
theorem low_of_count (h : (allT L).length < L.length) : lowT L < L.length := by
  have h1 := low_le L
  rcases Nat.lt_or_ge (lowT L) L.length with h2 | h2
  · exact h2
  · have := all_full (L := L) (by omega)
    omega
theorem full_of_count (h : (allT L).length = L.length) : lowT L = L.length := by
  have h1 := low_le L
  rcases Nat.lt_or_ge (lowT L) L.length with h2 | h2
  · have h3 := all_set_true h2 low_not
    have h4 := all_len (L.set (lowT L) true)
    rw [List.length_set] at h4
    omega
  · omega
end
end Go.Proofs.Ytnbofokdhkoglaa.Tb
