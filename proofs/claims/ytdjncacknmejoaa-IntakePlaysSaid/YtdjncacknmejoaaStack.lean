/-
  Contracts of the document's Items and Depth of a value. Memory that was there stays. Condition: a value of bulk at most 2^40.
  Contract of the document's Same of two values. Memory that was there stays. Condition: a value of bulk at most 2^40.
  Contracts of small calls: sameAlone; isName and the document's Called; Null, Number, Text, Bool. Memory that was there stays.
  A slice that the call itself made, used as a stack: its top, taking it off; cutting slices of values from the front. No condition.
-/
import Derived.Test.YtdjncacknmejoaaTree
import Derived.WalkLawsBesides
import Derived.StillTailTactics
namespace Go.Proofs.Ytdjncacknmejoaa.Val
open Go.RowKit Go.Proofs.Ytdjncacknmejoaa.Utf V

/-- What a call's own box holds, behind whatever left old memory alone. -/
theorem box_kept {wr w' : World} {b o : Nat} {v : Value} (h : wr.cell? ⟨b, o, none⟩ = some v) (hb : Below wr.heap.size wr w') (hlt : b < wr.heap.size) : w'.cell? ⟨b, o, none⟩ = some v := (hb.cell (p := ⟨b, o, none⟩) hlt).trans h
theorem ret_int {k : IntKind} {a b : Int} (h : a = b) : Ending.returned (.int k a) = .returned (.int k b) := by rw [h]
theorem below_next {w wr w' : World} (hb : Below w.heap.size w wr) (h : Below wr.heap.size wr w') : Below w.heap.size w w' := hb.trans (h.mono hb.size)

end Go.Proofs.Ytdjncacknmejoaa.Val

namespace Go.Proofs.Ytdjncacknmejoaa.Val
open Go.RowKit Go.Proofs.Ytdjncacknmejoaa.Utf V

/-- What is told of two values before their kids are gone through. -/
def heads (k k' n n' : Nat) (t t' : ByteArray) (l l' : Nat) : Prop := k = k' ∧ n = n' ∧ t = t' ∧ l = l'

theorem ba_toList {s t : ByteArray} (h : s.toList = t.toList) : s = t := by
  obtain ⟨⟨a⟩⟩ := s
  obtain ⟨⟨b⟩⟩ := t
  simpa using h

def GivesB (p : Bool) (w : World) (e : Ending) (w' : World) : Prop := e = .returned (.bool p) ∧ Below w.heap.size w w'

end Go.Proofs.Ytdjncacknmejoaa.Val

namespace Go.Proofs.Ytdjncacknmejoaa.Val
open Go.RowKit Go.Proofs.Ytdjncacknmejoaa.Utf V

/-- Are two values the same, whatever their kids are, but as many? -/
def aloneB (k k' n n' : Nat) (t t' : ByteArray) (l l' : Nat) : Bool := k == k' && n == n' && t.data.toList == t'.data.toList && l == l'
theorem aloneB_no {k k' n n' : Nat} {t t' : ByteArray} {l l' : Nat} (h : ¬ (k = k' ∧ n = n' ∧ t = t' ∧ l = l')) : aloneB k k' n n' t t' l l' = false := by
  cases hb : aloneB k k' n n' t t' l l' with
  | false => rfl
  | true =>
    simp only [aloneB, Bool.and_eq_true, beq_iff_eq, ba_ext] at hb
    exact absurd ⟨hb.1.1.1, hb.1.1.2, hb.1.2, hb.2⟩ h
theorem aloneB_yes (k n : Nat) (t : ByteArray) (l : Nat) : aloneB k k n n t t l l = true := by simp [aloneB]
theorem aloneB_iff {k k' n n' : Nat} {t t' : ByteArray} {l l' : Nat} (h : aloneB k k' n n' t t' l l' = true) : k = k' ∧ n = n' ∧ t = t' ∧ l = l' := by
  simp only [aloneB, Bool.and_eq_true, beq_iff_eq, ba_ext] at h
  exact ⟨h.1.1.1, h.1.1.2, h.1.2, h.2⟩

theorem two_boxes (w : World) (o o' : Obj) : Below w.heap.size w ((w.alloc o).alloc o') := ((Below.refl _ _).alloc (Nat.le_refl _) _).alloc (by simp) _

def nameB (k : Nat) : Bool := k == 6 || k == 21
/-- A value without kids is answered. -/
def GivesV (k n : Nat) (t : ByteArray) (w : World) (e : Ending) (w' : World) : Prop := e = .returned (.agg #[.int .u8 k, .int .u64 n, .string t, .slice none 0 0]) ∧ Below w.heap.size w w'

section
variable {w w' : World} {g B : Nat} {x0 x1 x2 x3 : Value}
end

theorem below_set4 {B : Nat} {w w1 : World} (h : Below B w w1) {g : Nat} (hg : B ≤ g) (a b c d : Value) : Below B w ((((w1.setCell ⟨g, 0, none⟩ a).setCell ⟨g, 1, none⟩ b).setCell ⟨g, 2, none⟩ c).setCell ⟨g, 3, none⟩ d) :=
  (((h.setCell (p := ⟨g, 0, none⟩) hg _).setCell (p := ⟨g, 1, none⟩) hg _).setCell (p := ⟨g, 2, none⟩) hg _).setCell (p := ⟨g, 3, none⟩) hg _
end Go.Proofs.Ytdjncacknmejoaa.Val

namespace Go.Proofs.Ytdjncacknmejoaa.Val
set_option maxRecDepth 100000
open Go.RowKit Go.Proofs.Ytdjncacknmejoaa.Utf V

theorem own_pop {w : World} {base : Nat} {e : TypeId} {size n m c : Nat} {A : Option Addr} {xs ys : List Value} (h : w.ownsRow base e size (.slice A n c) n (xs ++ ys)) (hx : xs.length = m * size) (hm : m < n) :
    w.ownsRow base e size (.slice A m c) m xs := by
  refine ⟨hx, ?_⟩
  rcases h.2 with ⟨_, h0⟩ | ⟨g, cap, cur, hv, hb, hg, hnc, hcm, hcs, htake⟩
  · omega
  · injection hv with h1 _ h3
    subst h1
    subst h3
    refine .inr ⟨g, c, cur, rfl, hb, hg, by omega, hcm, hcs, ?_⟩
    have hle : m * size ≤ n * size := Nat.mul_le_mul_right _ (by omega)
    have := congrArg (List.take (m * size)) htake
    have e2 : (xs ++ ys).take (m * size) = xs := by rw [← hx]; simp
    rw [List.take_take, Nat.min_eq_left hle, e2] at this
    exact this

theorem own_form {w : World} {base : Nat} {e : TypeId} {size n c : Nat} {A : Option Addr} {xs : List Value} (h : w.ownsRow base e size (.slice A n c) n xs) (hn : 0 < n) : ∃ g, A = some ⟨g, 0, none⟩ ∧ base ≤ g ∧ g < w.heap.size := by
  obtain ⟨g, cap, hv, hb, hlt⟩ := h.form hn
  injection hv with h1
  exact ⟨g, h1, hb, hlt⟩
theorem own_cap {w : World} {base : Nat} {e : TypeId} {size n c : Nat} {A : Option Addr} {xs : List Value} (h : w.ownsRow base e size (.slice A n c) n xs) : n ≤ c := by
  rcases h.2 with ⟨e, h0⟩ | ⟨g, cap, cur, hv, hb, hg, hnc, _⟩
  · omega
  · injection hv with _ _ h3
    omega

/-- x[:k], of whatever slice. -/
theorem cut_top {T e : TypeId} {size : Nat} (hT : Try.prog.underlying T = some (.slice e)) (he : Try.prog.elem T = e) (hi : (Try.prog.info? e).map (·.size) = some size) (A : Option Addr) (n c k : Nat) (hk : k ≤ n) (hnc : n ≤ c) :
    (∀ (W : World) (i : Int), i = k → (Instr.slice T (.slice A n c) none (some (.int .i64 i)) none).run Try.prog W = .ok (.slice A k c) W) ∧ (∀ (W : World) (i : Int), i = k → (Instr.sliceAt T (.slice A n c) none (some (.int .i64 i)) none).run Try.prog W = .ok (.slice A k c) W) := by
  have hT' : Try.prog.underlying T = some (.slice (Try.prog.elem T)) := by rw [he]; exact hT
  have hsz : ∀ W : World, (sizeOf e).run Try.prog W = .ok size W := fun W => by
    cases hq : Try.prog.info? e with
    | none => rw [hq] at hi; cases hi
    | some x => rw [hq] at hi; injection hi with hi; simp [sizeOf, typeInfo, hq, hi]
  have h1 : ∀ (W : World) (i : Int), i = k → (Instr.slice T (.slice A n c) none (some (.int .i64 i)) none).run Try.prog W = .ok (.slice A k c) W := fun W i hi => by
    subst hi
    rw [run_slice_h (P := Try.prog) (w := W) T A n c hT' .i64 (k : Int) (by omega) (by omega), he, hsz]
    simp only [Result.andThen, sliced]
    cases A <;> simp [Addr.add]
  refine ⟨h1, fun W i hi => ?_⟩
  rw [run_sliceAt_slice (P := Try.prog) (w := W) T _ _ _ _ hT']; exact h1 W i hi

end Go.Proofs.Ytdjncacknmejoaa.Val
