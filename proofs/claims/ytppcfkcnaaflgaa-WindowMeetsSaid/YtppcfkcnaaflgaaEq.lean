/-
  Contracts of utf.count, utf.Right and utf.Chars: the characters of bytes in new memory, or that they are no text. Memory that was there stays. Condition: at most 2^40 bytes.
  Contracts of the laws' helpers: same (characters), EqBytes, and of utf.Ascii and the document's Ascii. Conditions: at most 2^40 of them.
-/
import Derived.Test.YtppcfkcnaaflgaaFirst
import Derived.Laws.MakeOwn
import Derived.WalkLawsBesides
namespace Go.Proofs.Ytppcfkcnaaflgaa.Utf
open Go.RowKit

def lenOf : Value → Nat
  | .slice _ n _ => n
  | _ => 0

/-- No characters have this text. -/
def NoT (l : List Nat) : Prop := ∀ cs, ¬ IsT l cs

def GivesCnt (l : List Nat) (w : World) (e : Ending) (w' : World) : Prop :=
  ((∃ cs, IsT l cs ∧ e = .returned (.tuple #[.int .i64 (cs.length : Nat), .bool true])) ∨ (NoT l ∧ e = .returned (.tuple #[.int .i64 0, .bool false]))) ∧ Below w.heap.size w w'

theorem en_append_len {c : Nat} {r r' : List Nat} (h : r = en c ++ r') : fu c + 1 ≤ r.length ∧ r.drop (fu c + 1) = r' := by
  subst h
  rw [List.length_append, en_length]
  refine ⟨by omega, ?_⟩
  rw [← en_length, List.drop_left]

def GivesChars (l : List Nat) (w : World) (e : Ending) (w' : World) : Prop :=
  ((∃ cs A n c, IsT l cs ∧ e = .returned (.tuple #[.slice A n c, .bool true]) ∧ Own .u32 4294967296 22 w' w.heap.size A n c cs) ∨ (NoT l ∧ e = .returned (.tuple #[.slice none 0 0, .bool false]))) ∧ Below w.heap.size w w'

theorem isC_u32 {c : Nat} (h : isC c = true) : c < 4294967296 := by have := isC_lt h; omega

end Go.Proofs.Ytppcfkcnaaflgaa.Utf

namespace Go.Proofs.Ytppcfkcnaaflgaa.Utf
set_option maxRecDepth 100000
open Go.RowKit

theorem less_self (l : List UInt8) : Op.bytesLess l l = false := by
  induction l with
  | nil => rfl
  | cons a l ih => simp [Op.bytesLess, ih]

theorem less_not : ∀ (l m : List UInt8), Op.bytesLess l m = true → Op.bytesLess m l = false
  | [], [], _ => by simp [Op.bytesLess]
  | [], _ :: _, _ => by simp [Op.bytesLess]
  | _ :: _, [], h => by simp [Op.bytesLess] at h
  | a :: l, b :: m, h => by
    simp only [Op.bytesLess, Bool.or_eq_true, Bool.and_eq_true, decide_eq_true_eq, beq_iff_eq] at h
    rcases h with h | ⟨rfl, h⟩
    · have h1 : ¬ b < a := fun h2 => by have := UInt8.lt_trans h h2; simp at this
      have h2 : ¬ b = a := fun h2 => by subst h2; simp at h
      simp [Op.bytesLess, h1, h2]
    · simp [Op.bytesLess, less_not l m h]

theorem sb_list (l : List Nat) : (sb l).toList = l.map UInt8.ofNat := by
  simp [sb]

theorem leq_both {x y : List UInt8} (h : x ≠ y) : ((Op.bytesLess x y || x == y) && (Op.bytesLess y x || y == x)) = false := by
  have h1 : (x == y) = false := by simpa using h
  have h2 : (y == x) = false := by simpa using fun e => h (Eq.symm e)
  rw [h1, h2]
  cases hl : Op.bytesLess x y with
  | false => rfl
  | true => rw [less_not x y hl]; rfl

def asc (l : List Nat) : Bool := l.all fun x => decide (x < 128)
theorem asc_step {l : List Nat} {k x : Nat} (h : l[k]? = some x) : asc (l.drop k) = (decide (x < 128) && asc (l.drop (k + 1))) := by
  rw [drop_at h]; simp [asc]

end Go.Proofs.Ytppcfkcnaaflgaa.Utf
