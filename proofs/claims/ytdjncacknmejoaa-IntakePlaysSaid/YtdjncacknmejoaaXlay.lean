/-
  Contracts of the document's Lay and LayPiece behind nothing: new memory that holds the number's bytes; a piece behind its length. Conditions: at most 8 bytes; a piece whose length fits its width.
-/
import Derived.Test.YtdjncacknmejoaaOctL
namespace Go.Proofs.Ytdjncacknmejoaa.Enc
set_option maxRecDepth 100000
open Go.RowKit Go.Proofs.Ytdjncacknmejoaa.Utf

theorem div_step (X i : Nat) : ((X / 256 ^ i : Nat) : Int) / 256 = ((X / 256 ^ (i + 1) : Nat) : Int) := by
  rw [Nat.pow_succ, ← Nat.div_div_eq_div_mul]; simp
theorem byte_mod (Y : Nat) : (Y : Int) % 256 = ((Y % 256 : Nat) : Int) := by simp

/-- The call answers new memory that holds l, and no error. -/
def GivesX (base : Nat) (l : List Nat) (w : World) (e : Ending) (w' : World) : Prop := ∃ A n c, e = .returned (.tuple #[.slice A n c, .int .i64 0]) ∧ Own .u8 256 5 w' base A n c l ∧ Below base w w'
end Go.Proofs.Ytdjncacknmejoaa.Enc
