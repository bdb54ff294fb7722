/-
  No cell of these rows narrows 'for every input' (looked for: loops, veiled, ifaces, maps, wideKeys, modest, calm, conditions, laid).
  DERIVED. THE GIVEN ROWS OF THIS SEAT. 6 by the template 'for every input the law returns true; each argument reads behind the call as it read before'; 0 by the template 'total and deterministic' (their statements: YtaennednmkbihaaTotals.lean).
  GIVEN WITH THE SEED: the statements are not yours to turn. If you find one false, say at which input.
  Laid BY PROGRAM, IN A SANDBOX (cutbox-rows.mjs): the forced cells as the released guide's own fill.sh prints them over the translation 49c5f84667d03079… (all of the seat's roots in one cut). By AI agents, Wed Nov 11 2026. No macro, syntax, notation, axiom, sorry.
-/
import Derived.Test.YtaennednmkbihaaChecked
import GoSem.Claim
import GoSem.ClaimJoined
import GoSem.ClaimMapViews
import Derived.JoinedTies
import Derived.KernelRfl
namespace Go.Proofs.Ytaennednmkbihaa
/- THE CELL 'sum', in the pinned program and in every row, IS THE sha256 OF THE DUMP (.gsa) THAT YtaennednmkbihaaProg.lean LOADS. Nothing in Lean hashes anything: it is a label: what it is worth is what the hold of that sum in a sandbox is worth. -/
noncomputable def Try.pinned : Pinned := { name := "ytaennednmkbihaa", sum := "49c5f84667d03079c8366d83254bf922db3efbdbe5d7a9559e5a6cebe3d3da4d", checked := Try.checked }
namespace Rows
def none {H : Type} : Left H := { results := [], args := [] }

/-- 'bellwetherlaw01.OctetWidths': WHATEVER THE INPUT: true; the input reads as it did. -/
def octetWidthsSpec : ChangeSpec := { name := "octetWidths", fn := fun _ => fun
  | [d1, d2, d3] => { results := [.lit (.bool true)], args := [d1, d2, d3] }
  | _ => none }
def octetWidthsRow : OpenClaim := { program := "ytaennednmkbihaa", sum := "49c5f84667d03079c8366d83254bf922db3efbdbe5d7a9559e5a6cebe3d3da4d", func := "bellwether/bellwetherlaw01.OctetWidths", spec := "octetWidths", unfollowed := true, recurses := true, apart := false }
def OctetWidthsSaid : Prop := octetWidthsRow.holds Try.pinned (OpenSpec.ofChange octetWidthsSpec)

/-- ITS FALSE NEIGHBOUR: 'it returns false'. Refute it at one input. -/
def octetWidthsWrong : ChangeSpec := { name := "octetWidths", fn := fun _ => fun
  | [d1, d2, d3] => { results := [.lit (.bool false)], args := [d1, d2, d3] }
  | _ => none }
def OctetWidthsWrongFalsely : Prop := octetWidthsRow.holds Try.pinned (OpenSpec.ofChange octetWidthsWrong)

/-- 'bellwetherlaw01.OctetSigns': WHATEVER THE INPUT: true; the input reads as it did. -/
def octetSignsSpec : ChangeSpec := { name := "octetSigns", fn := fun _ => fun
  | [d1, d2] => { results := [.lit (.bool true)], args := [d1, d2] }
  | _ => none }
def octetSignsRow : OpenClaim := { program := "ytaennednmkbihaa", sum := "49c5f84667d03079c8366d83254bf922db3efbdbe5d7a9559e5a6cebe3d3da4d", func := "bellwether/bellwetherlaw01.OctetSigns", spec := "octetSigns", unfollowed := true, recurses := true, apart := false }
def OctetSignsSaid : Prop := octetSignsRow.holds Try.pinned (OpenSpec.ofChange octetSignsSpec)

/-- ITS FALSE NEIGHBOUR: 'it returns false'. Refute it at one input. -/
def octetSignsWrong : ChangeSpec := { name := "octetSigns", fn := fun _ => fun
  | [d1, d2] => { results := [.lit (.bool false)], args := [d1, d2] }
  | _ => none }
def OctetSignsWrongFalsely : Prop := octetSignsRow.holds Try.pinned (OpenSpec.ofChange octetSignsWrong)

/-- 'bellwetherlaw01.OctetPieces': WHATEVER THE INPUT: true; the input reads as it did. -/
def octetPiecesSpec : ChangeSpec := { name := "octetPieces", fn := fun _ => fun
  | [d1, d2, d3] => { results := [.lit (.bool true)], args := [d1, d2, d3] }
  | _ => none }
def octetPiecesRow : OpenClaim := { program := "ytaennednmkbihaa", sum := "49c5f84667d03079c8366d83254bf922db3efbdbe5d7a9559e5a6cebe3d3da4d", func := "bellwether/bellwetherlaw01.OctetPieces", spec := "octetPieces", unfollowed := true, recurses := true, apart := false }
def OctetPiecesSaid : Prop := octetPiecesRow.holds Try.pinned (OpenSpec.ofChange octetPiecesSpec)

/-- ITS FALSE NEIGHBOUR: 'it returns false'. Refute it at one input. -/
def octetPiecesWrong : ChangeSpec := { name := "octetPieces", fn := fun _ => fun
  | [d1, d2, d3] => { results := [.lit (.bool false)], args := [d1, d2, d3] }
  | _ => none }
def OctetPiecesWrongFalsely : Prop := octetPiecesRow.holds Try.pinned (OpenSpec.ofChange octetPiecesWrong)

/-- 'bellwetherlaw01.OctetCuts': WHATEVER THE INPUT: true; the input reads as it did. -/
def octetCutsSpec : ChangeSpec := { name := "octetCuts", fn := fun _ => fun
  | [d1, d2] => { results := [.lit (.bool true)], args := [d1, d2] }
  | _ => none }
def octetCutsRow : OpenClaim := { program := "ytaennednmkbihaa", sum := "49c5f84667d03079c8366d83254bf922db3efbdbe5d7a9559e5a6cebe3d3da4d", func := "bellwether/bellwetherlaw01.OctetCuts", spec := "octetCuts", unfollowed := true, recurses := true, apart := false }
def OctetCutsSaid : Prop := octetCutsRow.holds Try.pinned (OpenSpec.ofChange octetCutsSpec)

/-- ITS FALSE NEIGHBOUR: 'it returns false'. Refute it at one input. -/
def octetCutsWrong : ChangeSpec := { name := "octetCuts", fn := fun _ => fun
  | [d1, d2] => { results := [.lit (.bool false)], args := [d1, d2] }
  | _ => none }
def OctetCutsWrongFalsely : Prop := octetCutsRow.holds Try.pinned (OpenSpec.ofChange octetCutsWrong)

/-- 'bellwetherlaw01.OctetRow': WHATEVER THE INPUT: true; the input reads as it did. -/
def octetRowSpec : ChangeSpec := { name := "octetRow", fn := fun _ => fun
  | [d1, d2, d3] => { results := [.lit (.bool true)], args := [d1, d2, d3] }
  | _ => none }
def octetRowRow : OpenClaim := { program := "ytaennednmkbihaa", sum := "49c5f84667d03079c8366d83254bf922db3efbdbe5d7a9559e5a6cebe3d3da4d", func := "bellwether/bellwetherlaw01.OctetRow", spec := "octetRow", unfollowed := true, recurses := true, apart := false }
def OctetRowSaid : Prop := octetRowRow.holds Try.pinned (OpenSpec.ofChange octetRowSpec)

/-- ITS FALSE NEIGHBOUR: 'it returns false'. Refute it at one input. -/
def octetRowWrong : ChangeSpec := { name := "octetRow", fn := fun _ => fun
  | [d1, d2, d3] => { results := [.lit (.bool false)], args := [d1, d2, d3] }
  | _ => none }
def OctetRowWrongFalsely : Prop := octetRowRow.holds Try.pinned (OpenSpec.ofChange octetRowWrong)

/-- 'bellwetherlaw01.OctetRanks': WHATEVER THE INPUT: true; the input reads as it did. -/
def octetRanksSpec : ChangeSpec := { name := "octetRanks", fn := fun _ => fun
  | [d1, d2, d3] => { results := [.lit (.bool true)], args := [d1, d2, d3] }
  | _ => none }
def octetRanksRow : OpenClaim := { program := "ytaennednmkbihaa", sum := "49c5f84667d03079c8366d83254bf922db3efbdbe5d7a9559e5a6cebe3d3da4d", func := "bellwether/bellwetherlaw01.OctetRanks", spec := "octetRanks", unfollowed := true, recurses := true, apart := false }
def OctetRanksSaid : Prop := octetRanksRow.holds Try.pinned (OpenSpec.ofChange octetRanksSpec)

/-- ITS FALSE NEIGHBOUR: 'it returns false'. Refute it at one input. -/
def octetRanksWrong : ChangeSpec := { name := "octetRanks", fn := fun _ => fun
  | [d1, d2, d3] => { results := [.lit (.bool false)], args := [d1, d2, d3] }
  | _ => none }
def OctetRanksWrongFalsely : Prop := octetRanksRow.holds Try.pinned (OpenSpec.ofChange octetRanksWrong)

/- THE SECOND FORM. 'bulk': how many values and letters a reading holds, each counted each time it is reached (what is shared counts as often as it is met; a slice's spare places count too). A statement '..UptoSaid' is the law's where the arguments, and the package variables that the reading takes, are together of bulk at most 1048576: NARROWER than '..Said'. Prove '..Said' where nothing that the law and all that it calls make is longer than what came in: it says more and counts as full. Else prove '..UptoSaid'. A law counts once. -/
mutual
def uptoBulk {H : Type} : DataW H → Nat
  | .lit (.string bytes) => bytes.length + 1
  | .lit _ => 1
  | .nil => 1
  | .ptr d => uptoBulk d + 1
  | .slice elems spare => uptoBulkAll elems + uptoBulkAll spare + 1
  | .agg parts => uptoBulkAll parts + 1
  | .iface _ d => uptoBulk d + 1
  | .map entries => uptoBulkEntries entries + 1
  | .held _ => 1
def uptoBulkAll {H : Type} : List (DataW H) → Nat
  | [] => 0
  | d :: r => uptoBulk d + uptoBulkAll r
def uptoBulkEntries {H : Type} : List (Lit × DataW H) → Nat
  | [] => 0
  | x :: r => uptoBulkEntry x + uptoBulkEntries r
def uptoBulkEntry {H : Type} : Lit × DataW H → Nat
  | (.string bytes, d) => bytes.length + uptoBulk d + 1
  | (_, d) => uptoBulk d + 1
 end
def uptoSmall : (H : Type) → List (DataW H) → Bool := fun _ ds => decide (uptoBulkAll ds ≤ 1048576)
def OpenSpec.upto (s : _root_.Go.ChangeSpec) : _root_.Go.OpenSpec := { _root_.Go.OpenSpec.ofChange s with cond := some uptoSmall }

/-- 'bellwetherlaw01.OctetWidths', WHERE WHAT IT READS IS OF BULK AT MOST 1048576: true; the input reads as it did. -/
def octetWidthsUptoRow : OpenClaim := { program := "ytaennednmkbihaa", sum := "49c5f84667d03079c8366d83254bf922db3efbdbe5d7a9559e5a6cebe3d3da4d", func := "bellwether/bellwetherlaw01.OctetWidths", spec := "octetWidths", unfollowed := true, recurses := true, apart := false, narrowed := true }
def OctetWidthsUptoSaid : Prop := octetWidthsUptoRow.holds Try.pinned (OpenSpec.upto octetWidthsSpec)

/-- 'bellwetherlaw01.OctetSigns', WHERE WHAT IT READS IS OF BULK AT MOST 1048576: true; the input reads as it did. -/
def octetSignsUptoRow : OpenClaim := { program := "ytaennednmkbihaa", sum := "49c5f84667d03079c8366d83254bf922db3efbdbe5d7a9559e5a6cebe3d3da4d", func := "bellwether/bellwetherlaw01.OctetSigns", spec := "octetSigns", unfollowed := true, recurses := true, apart := false, narrowed := true }
def OctetSignsUptoSaid : Prop := octetSignsUptoRow.holds Try.pinned (OpenSpec.upto octetSignsSpec)

/-- 'bellwetherlaw01.OctetPieces', WHERE WHAT IT READS IS OF BULK AT MOST 1048576: true; the input reads as it did. -/
def octetPiecesUptoRow : OpenClaim := { program := "ytaennednmkbihaa", sum := "49c5f84667d03079c8366d83254bf922db3efbdbe5d7a9559e5a6cebe3d3da4d", func := "bellwether/bellwetherlaw01.OctetPieces", spec := "octetPieces", unfollowed := true, recurses := true, apart := false, narrowed := true }
def OctetPiecesUptoSaid : Prop := octetPiecesUptoRow.holds Try.pinned (OpenSpec.upto octetPiecesSpec)

/-- 'bellwetherlaw01.OctetCuts', WHERE WHAT IT READS IS OF BULK AT MOST 1048576: true; the input reads as it did. -/
def octetCutsUptoRow : OpenClaim := { program := "ytaennednmkbihaa", sum := "49c5f84667d03079c8366d83254bf922db3efbdbe5d7a9559e5a6cebe3d3da4d", func := "bellwether/bellwetherlaw01.OctetCuts", spec := "octetCuts", unfollowed := true, recurses := true, apart := false, narrowed := true }
def OctetCutsUptoSaid : Prop := octetCutsUptoRow.holds Try.pinned (OpenSpec.upto octetCutsSpec)

/-- 'bellwetherlaw01.OctetRow', WHERE WHAT IT READS IS OF BULK AT MOST 1048576: true; the input reads as it did. -/
def octetRowUptoRow : OpenClaim := { program := "ytaennednmkbihaa", sum := "49c5f84667d03079c8366d83254bf922db3efbdbe5d7a9559e5a6cebe3d3da4d", func := "bellwether/bellwetherlaw01.OctetRow", spec := "octetRow", unfollowed := true, recurses := true, apart := false, narrowed := true }
def OctetRowUptoSaid : Prop := octetRowUptoRow.holds Try.pinned (OpenSpec.upto octetRowSpec)

/-- 'bellwetherlaw01.OctetRanks', WHERE WHAT IT READS IS OF BULK AT MOST 1048576: true; the input reads as it did. -/
def octetRanksUptoRow : OpenClaim := { program := "ytaennednmkbihaa", sum := "49c5f84667d03079c8366d83254bf922db3efbdbe5d7a9559e5a6cebe3d3da4d", func := "bellwether/bellwetherlaw01.OctetRanks", spec := "octetRanks", unfollowed := true, recurses := true, apart := false, narrowed := true }
def OctetRanksUptoSaid : Prop := octetRanksUptoRow.holds Try.pinned (OpenSpec.upto octetRanksSpec)

end Rows
end Go.Proofs.Ytaennednmkbihaa
