/-
  No cell of these rows narrows 'for every input' (looked for: loops, veiled, ifaces, maps, wideKeys, modest, calm, conditions, laid).
  DERIVED. THE GIVEN ROWS OF THIS SEAT. 6 by the template 'for every input the law returns true; each argument reads behind the call as it read before'; 0 by the template 'total and deterministic' (their statements: YtdjncacknmejoaaTotals.lean).
  GIVEN WITH THE SEED: the statements are not yours to turn. If you find one false, say at which input.
  Laid BY PROGRAM, IN A SANDBOX (cutbox-rows.mjs): the forced cells as the released guide's own fill.sh prints them over the translation de0466b47fb0e767… (all of the seat's roots in one cut). By AI agents, Wed Nov 11 2026. No macro, syntax, notation, axiom, sorry.
-/
import Derived.Test.YtdjncacknmejoaaChecked
import GoSem.Claim
import GoSem.ClaimJoined
import GoSem.ClaimMapViews
import Derived.JoinedTies
import Derived.KernelRfl
namespace Go.Proofs.Ytdjncacknmejoaa
/- THE CELL 'sum', in the pinned program and in every row, IS THE sha256 OF THE DUMP (.gsa) THAT YtdjncacknmejoaaProg.lean LOADS. Nothing in Lean hashes anything: it is a label: what it is worth is what the hold of that sum in a sandbox is worth. -/
noncomputable def Try.pinned : Pinned := { name := "ytdjncacknmejoaa", sum := "de0466b47fb0e767bcb5fd593d159a3e5aa7802d953d326db7b9020c56c63ef9", checked := Try.checked }
namespace Rows
def none {H : Type} : Left H := { results := [], args := [] }

/-- 'bellwetherlaw12.IntakePlays': WHATEVER THE INPUT: true; the input reads as it did. -/
def intakePlaysSpec : ChangeSpec := { name := "intakePlays", fn := fun _ => fun
  | [d1, d2, d3] => { results := [.lit (.bool true)], args := [d1, d2, d3] }
  | _ => none }
def intakePlaysRow : OpenClaim := { program := "ytdjncacknmejoaa", sum := "de0466b47fb0e767bcb5fd593d159a3e5aa7802d953d326db7b9020c56c63ef9", func := "bellwether/bellwetherlaw12.IntakePlays", spec := "intakePlays", unfollowed := true, recurses := true, apart := false }
def IntakePlaysSaid : Prop := intakePlaysRow.holds Try.pinned (OpenSpec.ofChange intakePlaysSpec)

/-- ITS FALSE NEIGHBOUR: 'it returns false'. Refute it at one input. -/
def intakePlaysWrong : ChangeSpec := { name := "intakePlays", fn := fun _ => fun
  | [d1, d2, d3] => { results := [.lit (.bool false)], args := [d1, d2, d3] }
  | _ => none }
def IntakePlaysWrongFalsely : Prop := intakePlaysRow.holds Try.pinned (OpenSpec.ofChange intakePlaysWrong)

/-- 'bellwetherlaw12.IntakePieces': WHATEVER THE INPUT: true; the input reads as it did. -/
def intakePiecesSpec : ChangeSpec := { name := "intakePieces", fn := fun _ => fun
  | [d1, d2, d3, d4] => { results := [.lit (.bool true)], args := [d1, d2, d3, d4] }
  | _ => none }
def intakePiecesRow : OpenClaim := { program := "ytdjncacknmejoaa", sum := "de0466b47fb0e767bcb5fd593d159a3e5aa7802d953d326db7b9020c56c63ef9", func := "bellwether/bellwetherlaw12.IntakePieces", spec := "intakePieces", unfollowed := true, recurses := true, apart := false }
def IntakePiecesSaid : Prop := intakePiecesRow.holds Try.pinned (OpenSpec.ofChange intakePiecesSpec)

/-- ITS FALSE NEIGHBOUR: 'it returns false'. Refute it at one input. -/
def intakePiecesWrong : ChangeSpec := { name := "intakePieces", fn := fun _ => fun
  | [d1, d2, d3, d4] => { results := [.lit (.bool false)], args := [d1, d2, d3, d4] }
  | _ => none }
def IntakePiecesWrongFalsely : Prop := intakePiecesRow.holds Try.pinned (OpenSpec.ofChange intakePiecesWrong)

/-- 'bellwetherlaw12.IntakeSoon': WHATEVER THE INPUT: true; the input reads as it did. -/
def intakeSoonSpec : ChangeSpec := { name := "intakeSoon", fn := fun _ => fun
  | [d] => { results := [.lit (.bool true)], args := [d] }
  | _ => none }
def intakeSoonRow : OpenClaim := { program := "ytdjncacknmejoaa", sum := "de0466b47fb0e767bcb5fd593d159a3e5aa7802d953d326db7b9020c56c63ef9", func := "bellwether/bellwetherlaw12.IntakeSoon", spec := "intakeSoon", unfollowed := true, recurses := true, apart := false }
def IntakeSoonSaid : Prop := intakeSoonRow.holds Try.pinned (OpenSpec.ofChange intakeSoonSpec)

/-- ITS FALSE NEIGHBOUR: 'it returns false'. Refute it at one input. -/
def intakeSoonWrong : ChangeSpec := { name := "intakeSoon", fn := fun _ => fun
  | [d] => { results := [.lit (.bool false)], args := [d] }
  | _ => none }
def IntakeSoonWrongFalsely : Prop := intakeSoonRow.holds Try.pinned (OpenSpec.ofChange intakeSoonWrong)

/-- 'bellwetherlaw12.IntakeRoom': WHATEVER THE INPUT: true; the input reads as it did. -/
def intakeRoomSpec : ChangeSpec := { name := "intakeRoom", fn := fun _ => fun
  | [d1, d2] => { results := [.lit (.bool true)], args := [d1, d2] }
  | _ => none }
def intakeRoomRow : OpenClaim := { program := "ytdjncacknmejoaa", sum := "de0466b47fb0e767bcb5fd593d159a3e5aa7802d953d326db7b9020c56c63ef9", func := "bellwether/bellwetherlaw12.IntakeRoom", spec := "intakeRoom", unfollowed := true, recurses := true, apart := false }
def IntakeRoomSaid : Prop := intakeRoomRow.holds Try.pinned (OpenSpec.ofChange intakeRoomSpec)

/-- ITS FALSE NEIGHBOUR: 'it returns false'. Refute it at one input. -/
def intakeRoomWrong : ChangeSpec := { name := "intakeRoom", fn := fun _ => fun
  | [d1, d2] => { results := [.lit (.bool false)], args := [d1, d2] }
  | _ => none }
def IntakeRoomWrongFalsely : Prop := intakeRoomRow.holds Try.pinned (OpenSpec.ofChange intakeRoomWrong)

/-- 'bellwetherlaw12.IntakeHeader': WHATEVER THE INPUT: true; the input reads as it did. -/
def intakeHeaderSpec : ChangeSpec := { name := "intakeHeader", fn := fun _ => fun
  | [d1, d2, d3] => { results := [.lit (.bool true)], args := [d1, d2, d3] }
  | _ => none }
def intakeHeaderRow : OpenClaim := { program := "ytdjncacknmejoaa", sum := "de0466b47fb0e767bcb5fd593d159a3e5aa7802d953d326db7b9020c56c63ef9", func := "bellwether/bellwetherlaw12.IntakeHeader", spec := "intakeHeader", unfollowed := true, recurses := true, apart := false }
def IntakeHeaderSaid : Prop := intakeHeaderRow.holds Try.pinned (OpenSpec.ofChange intakeHeaderSpec)

/-- ITS FALSE NEIGHBOUR: 'it returns false'. Refute it at one input. -/
def intakeHeaderWrong : ChangeSpec := { name := "intakeHeader", fn := fun _ => fun
  | [d1, d2, d3] => { results := [.lit (.bool false)], args := [d1, d2, d3] }
  | _ => none }
def IntakeHeaderWrongFalsely : Prop := intakeHeaderRow.holds Try.pinned (OpenSpec.ofChange intakeHeaderWrong)

/-- 'bellwetherlaw12.IntakeNil': WHATEVER THE INPUT: true; the input reads as it did. -/
def intakeNilSpec : ChangeSpec := { name := "intakeNil", fn := fun _ => fun
  | [d1, d2] => { results := [.lit (.bool true)], args := [d1, d2] }
  | _ => none }
def intakeNilRow : OpenClaim := { program := "ytdjncacknmejoaa", sum := "de0466b47fb0e767bcb5fd593d159a3e5aa7802d953d326db7b9020c56c63ef9", func := "bellwether/bellwetherlaw12.IntakeNil", spec := "intakeNil", unfollowed := true, recurses := true, apart := false }
def IntakeNilSaid : Prop := intakeNilRow.holds Try.pinned (OpenSpec.ofChange intakeNilSpec)

/-- ITS FALSE NEIGHBOUR: 'it returns false'. Refute it at one input. -/
def intakeNilWrong : ChangeSpec := { name := "intakeNil", fn := fun _ => fun
  | [d1, d2] => { results := [.lit (.bool false)], args := [d1, d2] }
  | _ => none }
def IntakeNilWrongFalsely : Prop := intakeNilRow.holds Try.pinned (OpenSpec.ofChange intakeNilWrong)

/- THE SECOND FORM. 'bulk': how many values and letters a reading holds, each counted each time it is reached (what is shared counts as often as it is met; a slice's spare places count too). A statement '..UptoSaid' is the law's where the arguments, and the package variables that the reading takes, are together of bulk at most 1048576: NARROWER than '..Said'. Prove '..Said' where nothing that the law and all that it calls make is longer than what came in: it says more and counts as full. Else prove '..UptoSaid'. A law counts once. -/
mutual
def uptoBulk {H : Type} : DataW H → Nat
  | .lit (.string bytes) => bytes.length + 1
  | .lit _ => 1
  | .nil => 1
  | .ptr d => uptoBulk d + 1
  | .slice elems spare => uptoBulkAll elems + uptoBulkAll spare + 1
  | .agg parts => uptoBulkAll parts + 1
  | .iface _ d => uptoBulk d + 1
  | .map entries => uptoBulkEntries entries + 1
  | .held _ => 1
def uptoBulkAll {H : Type} : List (DataW H) → Nat
  | [] => 0
  | d :: r => uptoBulk d + uptoBulkAll r
def uptoBulkEntries {H : Type} : List (Lit × DataW H) → Nat
  | [] => 0
  | x :: r => uptoBulkEntry x + uptoBulkEntries r
def uptoBulkEntry {H : Type} : Lit × DataW H → Nat
  | (.string bytes, d) => bytes.length + uptoBulk d + 1
  | (_, d) => uptoBulk d + 1
 end
def uptoSmall : (H : Type) → List (DataW H) → Bool := fun _ ds => decide (uptoBulkAll ds ≤ 1048576)
def OpenSpec.upto (s : _root_.Go.ChangeSpec) : _root_.Go.OpenSpec := { _root_.Go.OpenSpec.ofChange s with cond := some uptoSmall }

/-- 'bellwetherlaw12.IntakePlays', WHERE WHAT IT READS IS OF BULK AT MOST 1048576: true; the input reads as it did. -/
def intakePlaysUptoRow : OpenClaim := { program := "ytdjncacknmejoaa", sum := "de0466b47fb0e767bcb5fd593d159a3e5aa7802d953d326db7b9020c56c63ef9", func := "bellwether/bellwetherlaw12.IntakePlays", spec := "intakePlays", unfollowed := true, recurses := true, apart := false, narrowed := true }
def IntakePlaysUptoSaid : Prop := intakePlaysUptoRow.holds Try.pinned (OpenSpec.upto intakePlaysSpec)

/-- 'bellwetherlaw12.IntakePieces', WHERE WHAT IT READS IS OF BULK AT MOST 1048576: true; the input reads as it did. -/
def intakePiecesUptoRow : OpenClaim := { program := "ytdjncacknmejoaa", sum := "de0466b47fb0e767bcb5fd593d159a3e5aa7802d953d326db7b9020c56c63ef9", func := "bellwether/bellwetherlaw12.IntakePieces", spec := "intakePieces", unfollowed := true, recurses := true, apart := false, narrowed := true }
def IntakePiecesUptoSaid : Prop := intakePiecesUptoRow.holds Try.pinned (OpenSpec.upto intakePiecesSpec)

/-- 'bellwetherlaw12.IntakeSoon', WHERE WHAT IT READS IS OF BULK AT MOST 1048576: true; the input reads as it did. -/
def intakeSoonUptoRow : OpenClaim := { program := "ytdjncacknmejoaa", sum := "de0466b47fb0e767bcb5fd593d159a3e5aa7802d953d326db7b9020c56c63ef9", func := "bellwether/bellwetherlaw12.IntakeSoon", spec := "intakeSoon", unfollowed := true, recurses := true, apart := false, narrowed := true }
def IntakeSoonUptoSaid : Prop := intakeSoonUptoRow.holds Try.pinned (OpenSpec.upto intakeSoonSpec)

/-- 'bellwetherlaw12.IntakeRoom', WHERE WHAT IT READS IS OF BULK AT MOST 1048576: true; the input reads as it did. -/
def intakeRoomUptoRow : OpenClaim := { program := "ytdjncacknmejoaa", sum := "de0466b47fb0e767bcb5fd593d159a3e5aa7802d953d326db7b9020c56c63ef9", func := "bellwether/bellwetherlaw12.IntakeRoom", spec := "intakeRoom", unfollowed := true, recurses := true, apart := false, narrowed := true }
def IntakeRoomUptoSaid : Prop := intakeRoomUptoRow.holds Try.pinned (OpenSpec.upto intakeRoomSpec)

/-- 'bellwetherlaw12.IntakeHeader', WHERE WHAT IT READS IS OF BULK AT MOST 1048576: true; the input reads as it did. -/
def intakeHeaderUptoRow : OpenClaim := { program := "ytdjncacknmejoaa", sum := "de0466b47fb0e767bcb5fd593d159a3e5aa7802d953d326db7b9020c56c63ef9", func := "bellwether/bellwetherlaw12.IntakeHeader", spec := "intakeHeader", unfollowed := true, recurses := true, apart := false, narrowed := true }
def IntakeHeaderUptoSaid : Prop := intakeHeaderUptoRow.holds Try.pinned (OpenSpec.upto intakeHeaderSpec)

/-- 'bellwetherlaw12.IntakeNil', WHERE WHAT IT READS IS OF BULK AT MOST 1048576: true; the input reads as it did. -/
def intakeNilUptoRow : OpenClaim := { program := "ytdjncacknmejoaa", sum := "de0466b47fb0e767bcb5fd593d159a3e5aa7802d953d326db7b9020c56c63ef9", func := "bellwether/bellwetherlaw12.IntakeNil", spec := "intakeNil", unfollowed := true, recurses := true, apart := false, narrowed := true }
def IntakeNilUptoSaid : Prop := intakeNilUptoRow.holds Try.pinned (OpenSpec.upto intakeNilSpec)

end Rows
end Go.Proofs.Ytdjncacknmejoaa
