/-
  NARROWER THAN 'FOR EVERY INPUT', by the rows' own cells (each row's printed sentence says how): MessageGets: laid.
  DERIVED. THE GIVEN ROWS OF THIS SEAT. 1 by the template 'for every input the law returns true; each argument reads behind the call as it read before'; 0 by the template 'total and deterministic' (their statements: YtbbbanfggcediaaGreatDoorTotals.lean).
  GIVEN WITH THE SEED: the statements are not yours to turn. If you find one false, say at which input.
  Laid BY PROGRAM, IN A SANDBOX (cutbox-rows.mjs): the forced cells as the released guide's own fill.sh prints them over the translation 5f9324b2ea9d347f… (all of the seat's roots in one cut). By AI agents, Wed Nov 11 2026. No macro, syntax, notation, axiom, sorry.
-/
import Derived.Test.YtbbbanfggcediaaGreatDoorChecked
import GoSem.Claim
import GoSem.ClaimJoined
import GoSem.ClaimMapViews
import Derived.JoinedTies
import Derived.KernelRfl
namespace Go.Proofs.YtbbbanfggcediaaGreatDoor
/- THE CELL 'sum', in the pinned program and in every row, IS THE sha256 OF THE DUMP (.gsa) THAT YtbbbanfggcediaaGreatDoorProg.lean LOADS. Nothing in Lean hashes anything: it is a label: what it is worth is what the hold of that sum in a sandbox is worth. -/
noncomputable def Tryz.pinned : Pinned := { name := "ytbbbanfggcediaagreatdoor", sum := "5f9324b2ea9d347f8ee2556f3335f5d2a153a413d32302f90a302a098ac5d096", checked := Tryz.checked }
namespace Rows
def none {H : Type} : Left H := { results := [], args := [] }

/- WHAT THE LISTED PACKAGE-LEVEL VARIABLES READ AS WHEN THE CALL BEGINS. Each datum BY PROGRAM (the guide's laid-datum.mjs) off the statement by which the dump's own 'gosem.cut.vars' lays the variable. In a bare row this is a premise. The card (YtbbbanfggcediaaGreatDoorCards.lean) ties it to the program's text. -/
def laid_bellwether_utf_shapes {H : Type} : DataW H := .agg [.agg [.lit (.int .u32 127), .lit (.int .u8 0), .lit (.int .u8 127)], .agg [.lit (.int .u32 2047), .lit (.int .u8 192), .lit (.int .u8 31)], .agg [.lit (.int .u32 65535), .lit (.int .u8 224), .lit (.int .u8 15)], .agg [.lit (.int .u32 1114111), .lit (.int .u8 240), .lit (.int .u8 7)]]

/-- 'bellwetherlaw10.MessageGets': WHATEVER THE INPUT: true; the input reads as it did. -/
def messageGetsSpec : ChangeSpec := { name := "messageGets", fn := fun _ => fun
  | [d] => { results := [.lit (.bool true)], args := [d] }
  | _ => none }
def messageGetsRow : OpenClaim := { program := "ytbbbanfggcediaagreatdoor", sum := "5f9324b2ea9d347f8ee2556f3335f5d2a153a413d32302f90a302a098ac5d096", func := "bellwether/bellwetherlaw10.MessageGets", spec := "messageGets", unfollowed := true, recurses := true, named := ["bellwether/utf.shapes"], apart := false, laid := [("bellwether/utf.shapes", laid_bellwether_utf_shapes)] }
def MessageGetsSaid : Prop := messageGetsRow.holds Tryz.pinned (OpenSpec.ofChange messageGetsSpec)

/-- ITS FALSE NEIGHBOUR: 'it returns false'. Refute it at one input. -/
def messageGetsWrong : ChangeSpec := { name := "messageGets", fn := fun _ => fun
  | [d] => { results := [.lit (.bool false)], args := [d] }
  | _ => none }
def MessageGetsWrongFalsely : Prop := messageGetsRow.holds Tryz.pinned (OpenSpec.ofChange messageGetsWrong)

/- THE SECOND FORM. 'bulk': how many values and letters a reading holds, each counted each time it is reached (what is shared counts as often as it is met; a slice's spare places count too). A statement '..UptoSaid' is the law's where the arguments, and the package variables that the reading takes, are together of bulk at most 1048576: NARROWER than '..Said'. Prove '..Said' where nothing that the law and all that it calls make is longer than what came in: it says more and counts as full. Else prove '..UptoSaid'. A law counts once. -/
mutual
def uptoBulk {H : Type} : DataW H → Nat
  | .lit (.string bytes) => bytes.length + 1
  | .lit _ => 1
  | .nil => 1
  | .ptr d => uptoBulk d + 1
  | .slice elems spare => uptoBulkAll elems + uptoBulkAll spare + 1
  | .agg parts => uptoBulkAll parts + 1
  | .iface _ d => uptoBulk d + 1
  | .map entries => uptoBulkEntries entries + 1
  | .held _ => 1
def uptoBulkAll {H : Type} : List (DataW H) → Nat
  | [] => 0
  | d :: r => uptoBulk d + uptoBulkAll r
def uptoBulkEntries {H : Type} : List (Lit × DataW H) → Nat
  | [] => 0
  | x :: r => uptoBulkEntry x + uptoBulkEntries r
def uptoBulkEntry {H : Type} : Lit × DataW H → Nat
  | (.string bytes, d) => bytes.length + uptoBulk d + 1
  | (_, d) => uptoBulk d + 1
 end
def uptoSmall : (H : Type) → List (DataW H) → Bool := fun _ ds => decide (uptoBulkAll ds ≤ 1048576)
def OpenSpec.upto (s : _root_.Go.ChangeSpec) : _root_.Go.OpenSpec := { _root_.Go.OpenSpec.ofChange s with cond := some uptoSmall }

/-- 'bellwetherlaw10.MessageGets', WHERE WHAT IT READS IS OF BULK AT MOST 1048576: true; the input reads as it did. -/
def messageGetsUptoRow : OpenClaim := { program := "ytbbbanfggcediaagreatdoor", sum := "5f9324b2ea9d347f8ee2556f3335f5d2a153a413d32302f90a302a098ac5d096", func := "bellwether/bellwetherlaw10.MessageGets", spec := "messageGets", unfollowed := true, recurses := true, named := ["bellwether/utf.shapes"], apart := false, laid := [("bellwether/utf.shapes", laid_bellwether_utf_shapes)], narrowed := true }
def MessageGetsUptoSaid : Prop := messageGetsUptoRow.holds Tryz.pinned (OpenSpec.upto messageGetsSpec)

end Rows
end Go.Proofs.YtbbbanfggcediaaGreatDoor
