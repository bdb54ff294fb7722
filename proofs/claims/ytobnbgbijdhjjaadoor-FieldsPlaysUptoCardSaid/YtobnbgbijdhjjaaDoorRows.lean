/-
  NARROWER THAN 'FOR EVERY INPUT', by the rows' own cells (each row's printed sentence says how): FieldsPlays: loops, laid · OutcomePuts: laid · OutcomeGets: loops, laid · OutcomeBack: loops, laid · OutcomeMay: laid · OutcomeNames: laid.
  DERIVED. THE GIVEN ROWS OF THIS SEAT. 6 by the template 'for every input the law returns true; each argument reads behind the call as it read before'; 0 by the template 'total and deterministic' (their statements: YtobnbgbijdhjjaaDoorTotals.lean).
  GIVEN WITH THE SEED: the statements are not yours to turn. If you find one false, say at which input.
  Laid BY PROGRAM, IN A SANDBOX (cutbox-rows.mjs): the forced cells as the released guide's own fill.sh prints them over the translation f5dd1af00e147191… (all of the seat's roots in one cut). By AI agents, Wed Nov 11 2026. No macro, syntax, notation, axiom, sorry.
-/
import Derived.Test.YtobnbgbijdhjjaaDoorChecked
import GoSem.Claim
import GoSem.ClaimJoined
import GoSem.ClaimMapViews
import Derived.JoinedTies
import Derived.KernelRfl
namespace Go.Proofs.YtobnbgbijdhjjaaDoor
/- THE CELL 'sum', in the pinned program and in every row, IS THE sha256 OF THE DUMP (.gsa) THAT YtobnbgbijdhjjaaDoorProg.lean LOADS. Nothing in Lean hashes anything: it is a label: what it is worth is what the hold of that sum in a sandbox is worth. -/
noncomputable def Tryd.pinned : Pinned := { name := "ytobnbgbijdhjjaadoor", sum := "f5dd1af00e147191538a0145296d717801162fd6eba1751f5c7aee10ceb67bc0", checked := Tryd.checked }
namespace Rows
def none {H : Type} : Left H := { results := [], args := [] }

/- WHAT THE LISTED PACKAGE-LEVEL VARIABLES READ AS WHEN THE CALL BEGINS. Each datum BY PROGRAM (the guide's laid-datum.mjs) off the statement by which the dump's own 'gosem.cut.vars' lays the variable. In a bare row this is a premise. The card (YtobnbgbijdhjjaaDoorCards.lean) ties it to the program's text. -/
def laid_bellwether_utf_shapes {H : Type} : DataW H := .agg [.agg [.lit (.int .u32 127), .lit (.int .u8 0), .lit (.int .u8 127)], .agg [.lit (.int .u32 2047), .lit (.int .u8 192), .lit (.int .u8 31)], .agg [.lit (.int .u32 65535), .lit (.int .u8 224), .lit (.int .u8 15)], .agg [.lit (.int .u32 1114111), .lit (.int .u8 240), .lit (.int .u8 7)]]

/-- 'bellwetherlaw07.FieldsPlays': WHATEVER THE INPUT: true; the input reads as it did. -/
def fieldsPlaysSpec : ChangeSpec := { name := "fieldsPlays", fn := fun _ => fun
  | [d1, d2, d3, d4] => { results := [.lit (.bool true)], args := [d1, d2, d3, d4] }
  | _ => none }
def fieldsPlaysRow : OpenClaim := { program := "ytobnbgbijdhjjaadoor", sum := "f5dd1af00e147191538a0145296d717801162fd6eba1751f5c7aee10ceb67bc0", func := "bellwether/bellwetherlaw07.FieldsPlays", spec := "fieldsPlays", unfollowed := true, recurses := true, named := ["bellwether/utf.shapes"], loops := true, apart := false, laid := [("bellwether/utf.shapes", laid_bellwether_utf_shapes)] }
def FieldsPlaysSaid : Prop := fieldsPlaysRow.holds Tryd.pinned (OpenSpec.ofChange fieldsPlaysSpec)

/-- ITS FALSE NEIGHBOUR: 'it returns false'. Refute it at one input. -/
def fieldsPlaysWrong : ChangeSpec := { name := "fieldsPlays", fn := fun _ => fun
  | [d1, d2, d3, d4] => { results := [.lit (.bool false)], args := [d1, d2, d3, d4] }
  | _ => none }
def FieldsPlaysWrongFalsely : Prop := fieldsPlaysRow.holds Tryd.pinned (OpenSpec.ofChange fieldsPlaysWrong)

/-- 'bellwetherlaw08.OutcomePuts': WHATEVER THE INPUT: true; the input reads as it did. -/
def outcomePutsSpec : ChangeSpec := { name := "outcomePuts", fn := fun _ => fun
  | [d] => { results := [.lit (.bool true)], args := [d] }
  | _ => none }
def outcomePutsRow : OpenClaim := { program := "ytobnbgbijdhjjaadoor", sum := "f5dd1af00e147191538a0145296d717801162fd6eba1751f5c7aee10ceb67bc0", func := "bellwether/bellwetherlaw08.OutcomePuts", spec := "outcomePuts", unfollowed := true, recurses := true, named := ["bellwether/utf.shapes"], apart := false, laid := [("bellwether/utf.shapes", laid_bellwether_utf_shapes)] }
def OutcomePutsSaid : Prop := outcomePutsRow.holds Tryd.pinned (OpenSpec.ofChange outcomePutsSpec)

/-- ITS FALSE NEIGHBOUR: 'it returns false'. Refute it at one input. -/
def outcomePutsWrong : ChangeSpec := { name := "outcomePuts", fn := fun _ => fun
  | [d] => { results := [.lit (.bool false)], args := [d] }
  | _ => none }
def OutcomePutsWrongFalsely : Prop := outcomePutsRow.holds Tryd.pinned (OpenSpec.ofChange outcomePutsWrong)

/-- 'bellwetherlaw08.OutcomeGets': WHATEVER THE INPUT: true; the input reads as it did. -/
def outcomeGetsSpec : ChangeSpec := { name := "outcomeGets", fn := fun _ => fun
  | [d] => { results := [.lit (.bool true)], args := [d] }
  | _ => none }
def outcomeGetsRow : OpenClaim := { program := "ytobnbgbijdhjjaadoor", sum := "f5dd1af00e147191538a0145296d717801162fd6eba1751f5c7aee10ceb67bc0", func := "bellwether/bellwetherlaw08.OutcomeGets", spec := "outcomeGets", unfollowed := true, recurses := true, named := ["bellwether/utf.shapes"], loops := true, apart := false, laid := [("bellwether/utf.shapes", laid_bellwether_utf_shapes)] }
def OutcomeGetsSaid : Prop := outcomeGetsRow.holds Tryd.pinned (OpenSpec.ofChange outcomeGetsSpec)

/-- ITS FALSE NEIGHBOUR: 'it returns false'. Refute it at one input. -/
def outcomeGetsWrong : ChangeSpec := { name := "outcomeGets", fn := fun _ => fun
  | [d] => { results := [.lit (.bool false)], args := [d] }
  | _ => none }
def OutcomeGetsWrongFalsely : Prop := outcomeGetsRow.holds Tryd.pinned (OpenSpec.ofChange outcomeGetsWrong)

/-- 'bellwetherlaw08.OutcomeBack': WHATEVER THE INPUT: true; the input reads as it did. -/
def outcomeBackSpec : ChangeSpec := { name := "outcomeBack", fn := fun _ => fun
  | [d1, d2, d3] => { results := [.lit (.bool true)], args := [d1, d2, d3] }
  | _ => none }
def outcomeBackRow : OpenClaim := { program := "ytobnbgbijdhjjaadoor", sum := "f5dd1af00e147191538a0145296d717801162fd6eba1751f5c7aee10ceb67bc0", func := "bellwether/bellwetherlaw08.OutcomeBack", spec := "outcomeBack", unfollowed := true, recurses := true, named := ["bellwether/utf.shapes"], loops := true, apart := false, laid := [("bellwether/utf.shapes", laid_bellwether_utf_shapes)] }
def OutcomeBackSaid : Prop := outcomeBackRow.holds Tryd.pinned (OpenSpec.ofChange outcomeBackSpec)

/-- ITS FALSE NEIGHBOUR: 'it returns false'. Refute it at one input. -/
def outcomeBackWrong : ChangeSpec := { name := "outcomeBack", fn := fun _ => fun
  | [d1, d2, d3] => { results := [.lit (.bool false)], args := [d1, d2, d3] }
  | _ => none }
def OutcomeBackWrongFalsely : Prop := outcomeBackRow.holds Tryd.pinned (OpenSpec.ofChange outcomeBackWrong)

/-- 'bellwetherlaw08.OutcomeMay': WHATEVER THE INPUT: true; the input reads as it did. -/
def outcomeMaySpec : ChangeSpec := { name := "outcomeMay", fn := fun _ => fun
  | [d] => { results := [.lit (.bool true)], args := [d] }
  | _ => none }
def outcomeMayRow : OpenClaim := { program := "ytobnbgbijdhjjaadoor", sum := "f5dd1af00e147191538a0145296d717801162fd6eba1751f5c7aee10ceb67bc0", func := "bellwether/bellwetherlaw08.OutcomeMay", spec := "outcomeMay", unfollowed := true, recurses := true, named := ["bellwether/utf.shapes"], apart := false, laid := [("bellwether/utf.shapes", laid_bellwether_utf_shapes)] }
def OutcomeMaySaid : Prop := outcomeMayRow.holds Tryd.pinned (OpenSpec.ofChange outcomeMaySpec)

/-- ITS FALSE NEIGHBOUR: 'it returns false'. Refute it at one input. -/
def outcomeMayWrong : ChangeSpec := { name := "outcomeMay", fn := fun _ => fun
  | [d] => { results := [.lit (.bool false)], args := [d] }
  | _ => none }
def OutcomeMayWrongFalsely : Prop := outcomeMayRow.holds Tryd.pinned (OpenSpec.ofChange outcomeMayWrong)

/-- 'bellwetherlaw08.OutcomeNames': WHATEVER THE INPUT: true; the input reads as it did. -/
def outcomeNamesSpec : ChangeSpec := { name := "outcomeNames", fn := fun _ => fun
  | [d1, d2] => { results := [.lit (.bool true)], args := [d1, d2] }
  | _ => none }
def outcomeNamesRow : OpenClaim := { program := "ytobnbgbijdhjjaadoor", sum := "f5dd1af00e147191538a0145296d717801162fd6eba1751f5c7aee10ceb67bc0", func := "bellwether/bellwetherlaw08.OutcomeNames", spec := "outcomeNames", unfollowed := true, recurses := true, named := ["bellwether/utf.shapes"], apart := false, laid := [("bellwether/utf.shapes", laid_bellwether_utf_shapes)] }
def OutcomeNamesSaid : Prop := outcomeNamesRow.holds Tryd.pinned (OpenSpec.ofChange outcomeNamesSpec)

/-- ITS FALSE NEIGHBOUR: 'it returns false'. Refute it at one input. -/
def outcomeNamesWrong : ChangeSpec := { name := "outcomeNames", fn := fun _ => fun
  | [d1, d2] => { results := [.lit (.bool false)], args := [d1, d2] }
  | _ => none }
def OutcomeNamesWrongFalsely : Prop := outcomeNamesRow.holds Tryd.pinned (OpenSpec.ofChange outcomeNamesWrong)

/- THE SECOND FORM. 'bulk': how many values and letters a reading holds, each counted each time it is reached (what is shared counts as often as it is met; a slice's spare places count too). A statement '..UptoSaid' is the law's where the arguments, and the package variables that the reading takes, are together of bulk at most 1048576: NARROWER than '..Said'. Prove '..Said' where nothing that the law and all that it calls make is longer than what came in: it says more and counts as full. Else prove '..UptoSaid'. A law counts once. -/
mutual
def uptoBulk {H : Type} : DataW H → Nat
  | .lit (.string bytes) => bytes.length + 1
  | .lit _ => 1
  | .nil => 1
  | .ptr d => uptoBulk d + 1
  | .slice elems spare => uptoBulkAll elems + uptoBulkAll spare + 1
  | .agg parts => uptoBulkAll parts + 1
  | .iface _ d => uptoBulk d + 1
  | .map entries => uptoBulkEntries entries + 1
  | .held _ => 1
def uptoBulkAll {H : Type} : List (DataW H) → Nat
  | [] => 0
  | d :: r => uptoBulk d + uptoBulkAll r
def uptoBulkEntries {H : Type} : List (Lit × DataW H) → Nat
  | [] => 0
  | x :: r => uptoBulkEntry x + uptoBulkEntries r
def uptoBulkEntry {H : Type} : Lit × DataW H → Nat
  | (.string bytes, d) => bytes.length + uptoBulk d + 1
  | (_, d) => uptoBulk d + 1
 end
def uptoSmall : (H : Type) → List (DataW H) → Bool := fun _ ds => decide (uptoBulkAll ds ≤ 1048576)
def OpenSpec.upto (s : _root_.Go.ChangeSpec) : _root_.Go.OpenSpec := { _root_.Go.OpenSpec.ofChange s with cond := some uptoSmall }

/-- 'bellwetherlaw07.FieldsPlays', WHERE WHAT IT READS IS OF BULK AT MOST 1048576: true; the input reads as it did. -/
def fieldsPlaysUptoRow : OpenClaim := { program := "ytobnbgbijdhjjaadoor", sum := "f5dd1af00e147191538a0145296d717801162fd6eba1751f5c7aee10ceb67bc0", func := "bellwether/bellwetherlaw07.FieldsPlays", spec := "fieldsPlays", unfollowed := true, recurses := true, named := ["bellwether/utf.shapes"], loops := true, apart := false, laid := [("bellwether/utf.shapes", laid_bellwether_utf_shapes)], narrowed := true }
def FieldsPlaysUptoSaid : Prop := fieldsPlaysUptoRow.holds Tryd.pinned (OpenSpec.upto fieldsPlaysSpec)

/-- 'bellwetherlaw08.OutcomePuts', WHERE WHAT IT READS IS OF BULK AT MOST 1048576: true; the input reads as it did. -/
def outcomePutsUptoRow : OpenClaim := { program := "ytobnbgbijdhjjaadoor", sum := "f5dd1af00e147191538a0145296d717801162fd6eba1751f5c7aee10ceb67bc0", func := "bellwether/bellwetherlaw08.OutcomePuts", spec := "outcomePuts", unfollowed := true, recurses := true, named := ["bellwether/utf.shapes"], apart := false, laid := [("bellwether/utf.shapes", laid_bellwether_utf_shapes)], narrowed := true }
def OutcomePutsUptoSaid : Prop := outcomePutsUptoRow.holds Tryd.pinned (OpenSpec.upto outcomePutsSpec)

/-- 'bellwetherlaw08.OutcomeGets', WHERE WHAT IT READS IS OF BULK AT MOST 1048576: true; the input reads as it did. -/
def outcomeGetsUptoRow : OpenClaim := { program := "ytobnbgbijdhjjaadoor", sum := "f5dd1af00e147191538a0145296d717801162fd6eba1751f5c7aee10ceb67bc0", func := "bellwether/bellwetherlaw08.OutcomeGets", spec := "outcomeGets", unfollowed := true, recurses := true, named := ["bellwether/utf.shapes"], loops := true, apart := false, laid := [("bellwether/utf.shapes", laid_bellwether_utf_shapes)], narrowed := true }
def OutcomeGetsUptoSaid : Prop := outcomeGetsUptoRow.holds Tryd.pinned (OpenSpec.upto outcomeGetsSpec)

/-- 'bellwetherlaw08.OutcomeBack', WHERE WHAT IT READS IS OF BULK AT MOST 1048576: true; the input reads as it did. -/
def outcomeBackUptoRow : OpenClaim := { program := "ytobnbgbijdhjjaadoor", sum := "f5dd1af00e147191538a0145296d717801162fd6eba1751f5c7aee10ceb67bc0", func := "bellwether/bellwetherlaw08.OutcomeBack", spec := "outcomeBack", unfollowed := true, recurses := true, named := ["bellwether/utf.shapes"], loops := true, apart := false, laid := [("bellwether/utf.shapes", laid_bellwether_utf_shapes)], narrowed := true }
def OutcomeBackUptoSaid : Prop := outcomeBackUptoRow.holds Tryd.pinned (OpenSpec.upto outcomeBackSpec)

/-- 'bellwetherlaw08.OutcomeMay', WHERE WHAT IT READS IS OF BULK AT MOST 1048576: true; the input reads as it did. -/
def outcomeMayUptoRow : OpenClaim := { program := "ytobnbgbijdhjjaadoor", sum := "f5dd1af00e147191538a0145296d717801162fd6eba1751f5c7aee10ceb67bc0", func := "bellwether/bellwetherlaw08.OutcomeMay", spec := "outcomeMay", unfollowed := true, recurses := true, named := ["bellwether/utf.shapes"], apart := false, laid := [("bellwether/utf.shapes", laid_bellwether_utf_shapes)], narrowed := true }
def OutcomeMayUptoSaid : Prop := outcomeMayUptoRow.holds Tryd.pinned (OpenSpec.upto outcomeMaySpec)

/-- 'bellwetherlaw08.OutcomeNames', WHERE WHAT IT READS IS OF BULK AT MOST 1048576: true; the input reads as it did. -/
def outcomeNamesUptoRow : OpenClaim := { program := "ytobnbgbijdhjjaadoor", sum := "f5dd1af00e147191538a0145296d717801162fd6eba1751f5c7aee10ceb67bc0", func := "bellwether/bellwetherlaw08.OutcomeNames", spec := "outcomeNames", unfollowed := true, recurses := true, named := ["bellwether/utf.shapes"], apart := false, laid := [("bellwether/utf.shapes", laid_bellwether_utf_shapes)], narrowed := true }
def OutcomeNamesUptoSaid : Prop := outcomeNamesUptoRow.holds Tryd.pinned (OpenSpec.upto outcomeNamesSpec)

end Rows
end Go.Proofs.YtobnbgbijdhjjaaDoor
