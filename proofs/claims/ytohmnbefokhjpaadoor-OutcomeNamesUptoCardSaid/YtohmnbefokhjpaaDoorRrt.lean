/-
  Contracts of the document's own One and Text: the bytes of a character, and the text of characters, in new memory; or that one is no character. Condition: at most 2^40 characters.
  Contract of the document's own Chars: it reads leniently ('lx'), and holds what is written so. Condition: at most 2^30 bytes.
  Contract of the document's Right of bytes: it tells whether they are the text of some characters. Memory that was there stays. Condition: at most 2^30 bytes.
-/
import Derived.Test.YtohmnbefokhjpaaDoorEq
namespace Go.Proofs.YtohmnbefokhjpaaDoor.Utf
open Go.RowKit

theorem allC_snoc {l : List Nat} {k x : Nat} (h : AllC (l.take k)) (hx : l[k]? = some x) (hC : isC x = true) : AllC (l.take (k + 1)) := by
  rw [List.take_add_one, hx]
  exact h.append (AllC.one hC)
theorem not_allC {l : List Nat} {k x : Nat} (hx : l[k]? = some x) (hC : isC x = false) : ¬ AllC l := fun h => by
  obtain ⟨hk, rfl⟩ := List.getElem?_eq_some_iff.1 hx
  have := h _ (List.getElem_mem hk)
  rw [hC] at this
  cases this
theorem txt_snoc {l : List Nat} {k x : Nat} (hx : l[k]? = some x) : txt (l.take (k + 1)) = txt (l.take k) ++ en x := by
  rw [List.take_add_one, hx, txt_append]
  simp [txt_cons, txt_nil]

def GivesText (l : List Nat) (w : World) (e : Ending) (w' : World) : Prop :=
  ((∃ A n c, AllC l ∧ e = .returned (.tuple #[.slice A n c, .bool true]) ∧ Own .u8 256 5 w' w.heap.size A n c (txt l)) ∨ (¬ AllC l ∧ e = .returned (.tuple #[.slice none 0 0, .bool false]))) ∧ Below w.heap.size w w'


theorem own_ints (w : World) (n : Nat) (zs : List Int) (l : List Nat) (hz : zs = l.map fun (x : Nat) => (x : Int)) (hn : l.length = n) (hl : ∀ x ∈ l, x < 256) (hm : n ≤ maxLen) : Own .u8 256 5 (w.alloc (.cells (zs.map (Value.int .u8)).toArray 5)) w.heap.size (some ⟨w.heap.size, 0, none⟩) n n l := by
  subst hz
  have h := own_lit8 w w.heap.size n l hn hl hm (Nat.le_refl _)
  have e : (l.map fun (x : Nat) => (x : Int)).map (Value.int .u8) = vs .u8 l := by simp [vs]
  rw [e]
  exact h

def GivesOne (c : Nat) (w : World) (e : Ending) (w' : World) : Prop := ∃ A n cc, e = .returned (.slice A n cc) ∧ Own .u8 256 5 w' w.heap.size A n cc (en c) ∧ n ≤ 4 ∧ Below w.heap.size w w'

end Go.Proofs.YtohmnbefokhjpaaDoor.Utf

namespace Go.Proofs.YtohmnbefokhjpaaDoor.Utf
open Go.RowKit

def kf (o : Nat) : Nat := if 240 ≤ o then 3 else if 224 ≤ o then 2 else if 192 ≤ o then 1 else 0
def ini (o : Nat) : Nat := if 240 ≤ o then o % 8 else if 224 ≤ o then o % 16 else if 192 ≤ o then o % 32 else o
def fl (x : Nat) (t : List Nat) : Nat := t.foldl (fun x y => 64 * x + y % 64) x
theorem fl_snoc (x : Nat) (t : List Nat) (y : Nat) : fl x (t ++ [y]) = 64 * fl x t + y % 64 := by simp [fl]

/-- The numbers that are read leniently. -/
def lx : List Nat → List Nat
  | [] => []
  | o :: r => fl (ini o) (r.take (kf o)) :: lx (r.drop (kf o))
termination_by b => b.length
decreasing_by simp; omega

theorem lx_nil : lx [] = [] := by rw [lx]
theorem lx_cons (o : Nat) (r : List Nat) : lx (o :: r) = fl (ini o) (r.take (kf o)) :: lx (r.drop (kf o)) := by rw [lx]

theorem lx_en {c : Nat} (h : isC c = true) (r : List Nat) : lx (en c ++ r) = c :: lx r := by
  have hl := isC_lt h
  by_cases h1 : c < 128
  · have e : en c = [c] := by unfold en; rw [if_pos h1]
    have k : kf c = 0 := by unfold kf; rw [if_neg (by omega), if_neg (by omega), if_neg (by omega)]
    have i : ini c = c := by unfold ini; rw [if_neg (by omega), if_neg (by omega), if_neg (by omega)]
    rw [e, List.singleton_append, lx_cons, k, i]
    simp [fl]
  by_cases h2 : c < 2048
  · have e : en c = [192 + c / 64, 128 + c % 64] := by unfold en; rw [if_neg h1, if_pos h2]
    have k : kf (192 + c / 64) = 1 := by unfold kf; rw [if_neg (by omega), if_neg (by omega), if_pos (by omega)]
    have i : ini (192 + c / 64) = c / 64 := by unfold ini; rw [if_neg (by omega), if_neg (by omega), if_pos (by omega)]; omega
    rw [e, List.cons_append, lx_cons, k, i]
    simp [fl]
    omega
  by_cases h3 : c < 65536
  · have e : en c = [224 + c / 4096, 128 + c / 64 % 64, 128 + c % 64] := by unfold en; rw [if_neg h1, if_neg h2, if_pos h3]
    have k : kf (224 + c / 4096) = 2 := by unfold kf; rw [if_neg (by omega), if_pos (by omega)]
    have i : ini (224 + c / 4096) = c / 4096 := by unfold ini; rw [if_neg (by omega), if_pos (by omega)]; omega
    rw [e, List.cons_append, lx_cons, k, i]
    simp [fl]
    omega
  · have e : en c = [240 + c / 262144, 128 + c / 4096 % 64, 128 + c / 64 % 64, 128 + c % 64] := by unfold en; rw [if_neg h1, if_neg h2, if_neg h3]
    have k : kf (240 + c / 262144) = 3 := by unfold kf; rw [if_pos (by omega)]
    have i : ini (240 + c / 262144) = c / 262144 := by unfold ini; rw [if_pos (by omega)]; omega
    rw [e, List.cons_append, lx_cons, k, i]
    simp [fl]
    omega

theorem lx_txt : ∀ {cs : List Nat}, AllC cs → lx (txt cs) = cs
  | [], _ => by rw [txt_nil, lx_nil]
  | c :: cs, h => by rw [txt_cons, lx_en (h c (by simp)), lx_txt fun x hx => h x (by simp [hx])]

theorem lx_step {l : List Nat} {p o : Nat} (h : l[p]? = some o) : lx (l.drop p) = fl (ini o) ((l.drop (p + 1)).take (kf o)) :: lx (l.drop (p + (kf o + 1))) := by
  rw [drop_at h, lx_cons, List.drop_drop]
  congr 3
  omega

theorem fl_next {l : List Nat} {p j y x : Nat} (hj : 1 ≤ j) (h : l[p + j]? = some y) : fl x ((l.drop (p + 1)).take (j + 1 - 1)) = 64 * fl x ((l.drop (p + 1)).take (j - 1)) + y % 64 := by
  rw [← fl_snoc]
  congr 1
  have e : (l.drop (p + 1))[j - 1]? = some y := by rw [List.getElem?_drop, show p + 1 + (j - 1) = p + j by omega]; exact h
  rw [show j + 1 - 1 = (j - 1) + 1 by omega, List.take_add_one, e]
  rfl

theorem take_all {l : List Nat} {n p j k : Nat} (hl : l.length = n) (h : k ≤ j - 1 ∧ j - 1 ≤ k ∨ (j - 1 ≤ k ∧ n ≤ p + j)) : (l.drop (p + 1)).take (j - 1) = (l.drop (p + 1)).take k := by
  rcases h with h | h
  · rw [show j - 1 = k by omega]
  · rw [List.take_of_length_le (by rw [List.length_drop]; omega), List.take_of_length_le (by rw [List.length_drop]; omega)]

def Bd (j X : Nat) : Prop := (j = 1 → X < 256) ∧ (j = 2 → X < 16384) ∧ (j = 3 → X < 1048576) ∧ (j = 4 → X < 67108864)

end Go.Proofs.YtohmnbefokhjpaaDoor.Utf

namespace Go.Proofs.YtohmnbefokhjpaaDoor.Utf
open Go.RowKit

end Go.Proofs.YtohmnbefokhjpaaDoor.Utf
