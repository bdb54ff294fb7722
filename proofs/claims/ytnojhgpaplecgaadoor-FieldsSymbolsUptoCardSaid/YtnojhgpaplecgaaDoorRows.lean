/-
  NARROWER THAN 'FOR EVERY INPUT', by the rows' own cells (each row's printed sentence says how): FieldsPlays: loops, laid · FieldsPuts: loops, laid · FieldsSpoils: loops, laid · FieldsSymbols: loops, laid · FieldsNil: laid.
  DERIVED. THE GIVEN ROWS OF THIS SEAT. 5 by the template 'for every input the law returns true; each argument reads behind the call as it read before'; 0 by the template 'total and deterministic' (their statements: YtnojhgpaplecgaaDoorTotals.lean).
  GIVEN WITH THE SEED: the statements are not yours to turn. If you find one false, say at which input.
  Laid BY PROGRAM, IN A SANDBOX (cutbox-rows.mjs): the forced cells as the released guide's own fill.sh prints them over the translation 2605da487a64cd54… (all of the seat's roots in one cut). By AI agents, Wed Nov 11 2026. No macro, syntax, notation, axiom, sorry.
-/
import Derived.Test.YtnojhgpaplecgaaDoorChecked
import GoSem.Claim
import GoSem.ClaimJoined
import GoSem.ClaimMapViews
import Derived.JoinedTies
import Derived.KernelRfl
namespace Go.Proofs.YtnojhgpaplecgaaDoor
/- THE CELL 'sum', in the pinned program and in every row, IS THE sha256 OF THE DUMP (.gsa) THAT YtnojhgpaplecgaaDoorProg.lean LOADS. Nothing in Lean hashes anything: it is a label: what it is worth is what the hold of that sum in a sandbox is worth. -/
noncomputable def Tryd.pinned : Pinned := { name := "ytnojhgpaplecgaadoor", sum := "2605da487a64cd54b866ea854b0de9e17e1a79c87c0b68bd8ac602c28ed45f72", checked := Tryd.checked }
namespace Rows
def none {H : Type} : Left H := { results := [], args := [] }

/- WHAT THE LISTED PACKAGE-LEVEL VARIABLES READ AS WHEN THE CALL BEGINS. Each datum BY PROGRAM (the guide's laid-datum.mjs) off the statement by which the dump's own 'gosem.cut.vars' lays the variable. In a bare row this is a premise. The card (YtnojhgpaplecgaaDoorCards.lean) ties it to the program's text. -/
def laid_bellwether_utf_shapes {H : Type} : DataW H := .agg [.agg [.lit (.int .u32 127), .lit (.int .u8 0), .lit (.int .u8 127)], .agg [.lit (.int .u32 2047), .lit (.int .u8 192), .lit (.int .u8 31)], .agg [.lit (.int .u32 65535), .lit (.int .u8 224), .lit (.int .u8 15)], .agg [.lit (.int .u32 1114111), .lit (.int .u8 240), .lit (.int .u8 7)]]

/-- 'bellwetherlaw07.FieldsPlays': WHATEVER THE INPUT: true; the input reads as it did. -/
def fieldsPlaysSpec : ChangeSpec := { name := "fieldsPlays", fn := fun _ => fun
  | [d1, d2, d3, d4] => { results := [.lit (.bool true)], args := [d1, d2, d3, d4] }
  | _ => none }
def fieldsPlaysRow : OpenClaim := { program := "ytnojhgpaplecgaadoor", sum := "2605da487a64cd54b866ea854b0de9e17e1a79c87c0b68bd8ac602c28ed45f72", func := "bellwether/bellwetherlaw07.FieldsPlays", spec := "fieldsPlays", unfollowed := true, recurses := true, named := ["bellwether/utf.shapes"], loops := true, apart := false, laid := [("bellwether/utf.shapes", laid_bellwether_utf_shapes)] }
def FieldsPlaysSaid : Prop := fieldsPlaysRow.holds Tryd.pinned (OpenSpec.ofChange fieldsPlaysSpec)

/-- ITS FALSE NEIGHBOUR: 'it returns false'. Refute it at one input. -/
def fieldsPlaysWrong : ChangeSpec := { name := "fieldsPlays", fn := fun _ => fun
  | [d1, d2, d3, d4] => { results := [.lit (.bool false)], args := [d1, d2, d3, d4] }
  | _ => none }
def FieldsPlaysWrongFalsely : Prop := fieldsPlaysRow.holds Tryd.pinned (OpenSpec.ofChange fieldsPlaysWrong)

/-- 'bellwetherlaw07.FieldsPuts': WHATEVER THE INPUT: true; the input reads as it did. -/
def fieldsPutsSpec : ChangeSpec := { name := "fieldsPuts", fn := fun _ => fun
  | [d1, d2] => { results := [.lit (.bool true)], args := [d1, d2] }
  | _ => none }
def fieldsPutsRow : OpenClaim := { program := "ytnojhgpaplecgaadoor", sum := "2605da487a64cd54b866ea854b0de9e17e1a79c87c0b68bd8ac602c28ed45f72", func := "bellwether/bellwetherlaw07.FieldsPuts", spec := "fieldsPuts", unfollowed := true, recurses := true, named := ["bellwether/utf.shapes"], loops := true, apart := false, laid := [("bellwether/utf.shapes", laid_bellwether_utf_shapes)] }
def FieldsPutsSaid : Prop := fieldsPutsRow.holds Tryd.pinned (OpenSpec.ofChange fieldsPutsSpec)

/-- ITS FALSE NEIGHBOUR: 'it returns false'. Refute it at one input. -/
def fieldsPutsWrong : ChangeSpec := { name := "fieldsPuts", fn := fun _ => fun
  | [d1, d2] => { results := [.lit (.bool false)], args := [d1, d2] }
  | _ => none }
def FieldsPutsWrongFalsely : Prop := fieldsPutsRow.holds Tryd.pinned (OpenSpec.ofChange fieldsPutsWrong)

/-- 'bellwetherlaw07.FieldsSpoils': WHATEVER THE INPUT: true; the input reads as it did. -/
def fieldsSpoilsSpec : ChangeSpec := { name := "fieldsSpoils", fn := fun _ => fun
  | [d1, d2] => { results := [.lit (.bool true)], args := [d1, d2] }
  | _ => none }
def fieldsSpoilsRow : OpenClaim := { program := "ytnojhgpaplecgaadoor", sum := "2605da487a64cd54b866ea854b0de9e17e1a79c87c0b68bd8ac602c28ed45f72", func := "bellwether/bellwetherlaw07.FieldsSpoils", spec := "fieldsSpoils", unfollowed := true, recurses := true, named := ["bellwether/utf.shapes"], loops := true, apart := false, laid := [("bellwether/utf.shapes", laid_bellwether_utf_shapes)] }
def FieldsSpoilsSaid : Prop := fieldsSpoilsRow.holds Tryd.pinned (OpenSpec.ofChange fieldsSpoilsSpec)

/-- ITS FALSE NEIGHBOUR: 'it returns false'. Refute it at one input. -/
def fieldsSpoilsWrong : ChangeSpec := { name := "fieldsSpoils", fn := fun _ => fun
  | [d1, d2] => { results := [.lit (.bool false)], args := [d1, d2] }
  | _ => none }
def FieldsSpoilsWrongFalsely : Prop := fieldsSpoilsRow.holds Tryd.pinned (OpenSpec.ofChange fieldsSpoilsWrong)

/-- 'bellwetherlaw07.FieldsSymbols': WHATEVER THE INPUT: true; the input reads as it did. -/
def fieldsSymbolsSpec : ChangeSpec := { name := "fieldsSymbols", fn := fun _ => fun
  | [d1, d2] => { results := [.lit (.bool true)], args := [d1, d2] }
  | _ => none }
def fieldsSymbolsRow : OpenClaim := { program := "ytnojhgpaplecgaadoor", sum := "2605da487a64cd54b866ea854b0de9e17e1a79c87c0b68bd8ac602c28ed45f72", func := "bellwether/bellwetherlaw07.FieldsSymbols", spec := "fieldsSymbols", unfollowed := true, recurses := true, named := ["bellwether/utf.shapes"], loops := true, apart := false, laid := [("bellwether/utf.shapes", laid_bellwether_utf_shapes)] }
def FieldsSymbolsSaid : Prop := fieldsSymbolsRow.holds Tryd.pinned (OpenSpec.ofChange fieldsSymbolsSpec)

/-- ITS FALSE NEIGHBOUR: 'it returns false'. Refute it at one input. -/
def fieldsSymbolsWrong : ChangeSpec := { name := "fieldsSymbols", fn := fun _ => fun
  | [d1, d2] => { results := [.lit (.bool false)], args := [d1, d2] }
  | _ => none }
def FieldsSymbolsWrongFalsely : Prop := fieldsSymbolsRow.holds Tryd.pinned (OpenSpec.ofChange fieldsSymbolsWrong)

/-- 'bellwetherlaw07.FieldsNil': WHATEVER THE INPUT: true; the input reads as it did. -/
def fieldsNilSpec : ChangeSpec := { name := "fieldsNil", fn := fun _ => fun
  | [d1, d2] => { results := [.lit (.bool true)], args := [d1, d2] }
  | _ => none }
def fieldsNilRow : OpenClaim := { program := "ytnojhgpaplecgaadoor", sum := "2605da487a64cd54b866ea854b0de9e17e1a79c87c0b68bd8ac602c28ed45f72", func := "bellwether/bellwetherlaw07.FieldsNil", spec := "fieldsNil", unfollowed := true, recurses := true, named := ["bellwether/utf.shapes"], apart := false, laid := [("bellwether/utf.shapes", laid_bellwether_utf_shapes)] }
def FieldsNilSaid : Prop := fieldsNilRow.holds Tryd.pinned (OpenSpec.ofChange fieldsNilSpec)

/-- ITS FALSE NEIGHBOUR: 'it returns false'. Refute it at one input. -/
def fieldsNilWrong : ChangeSpec := { name := "fieldsNil", fn := fun _ => fun
  | [d1, d2] => { results := [.lit (.bool false)], args := [d1, d2] }
  | _ => none }
def FieldsNilWrongFalsely : Prop := fieldsNilRow.holds Tryd.pinned (OpenSpec.ofChange fieldsNilWrong)

/- THE SECOND FORM. 'bulk': how many values and letters a reading holds, each counted each time it is reached (what is shared counts as often as it is met; a slice's spare places count too). A statement '..UptoSaid' is the law's where the arguments, and the package variables that the reading takes, are together of bulk at most 1048576: NARROWER than '..Said'. Prove '..Said' where nothing that the law and all that it calls make is longer than what came in: it says more and counts as full. Else prove '..UptoSaid'. A law counts once. -/
mutual
def uptoBulk {H : Type} : DataW H → Nat
  | .lit (.string bytes) => bytes.length + 1
  | .lit _ => 1
  | .nil => 1
  | .ptr d => uptoBulk d + 1
  | .slice elems spare => uptoBulkAll elems + uptoBulkAll spare + 1
  | .agg parts => uptoBulkAll parts + 1
  | .iface _ d => uptoBulk d + 1
  | .map entries => uptoBulkEntries entries + 1
  | .held _ => 1
def uptoBulkAll {H : Type} : List (DataW H) → Nat
  | [] => 0
  | d :: r => uptoBulk d + uptoBulkAll r
def uptoBulkEntries {H : Type} : List (Lit × DataW H) → Nat
  | [] => 0
  | x :: r => uptoBulkEntry x + uptoBulkEntries r
def uptoBulkEntry {H : Type} : Lit × DataW H → Nat
  | (.string bytes, d) => bytes.length + uptoBulk d + 1
  | (_, d) => uptoBulk d + 1
 end
def uptoSmall : (H : Type) → List (DataW H) → Bool := fun _ ds => decide (uptoBulkAll ds ≤ 1048576)
def OpenSpec.upto (s : _root_.Go.ChangeSpec) : _root_.Go.OpenSpec := { _root_.Go.OpenSpec.ofChange s with cond := some uptoSmall }

/-- 'bellwetherlaw07.FieldsPlays', WHERE WHAT IT READS IS OF BULK AT MOST 1048576: true; the input reads as it did. -/
def fieldsPlaysUptoRow : OpenClaim := { program := "ytnojhgpaplecgaadoor", sum := "2605da487a64cd54b866ea854b0de9e17e1a79c87c0b68bd8ac602c28ed45f72", func := "bellwether/bellwetherlaw07.FieldsPlays", spec := "fieldsPlays", unfollowed := true, recurses := true, named := ["bellwether/utf.shapes"], loops := true, apart := false, laid := [("bellwether/utf.shapes", laid_bellwether_utf_shapes)], narrowed := true }
def FieldsPlaysUptoSaid : Prop := fieldsPlaysUptoRow.holds Tryd.pinned (OpenSpec.upto fieldsPlaysSpec)

/-- 'bellwetherlaw07.FieldsPuts', WHERE WHAT IT READS IS OF BULK AT MOST 1048576: true; the input reads as it did. -/
def fieldsPutsUptoRow : OpenClaim := { program := "ytnojhgpaplecgaadoor", sum := "2605da487a64cd54b866ea854b0de9e17e1a79c87c0b68bd8ac602c28ed45f72", func := "bellwether/bellwetherlaw07.FieldsPuts", spec := "fieldsPuts", unfollowed := true, recurses := true, named := ["bellwether/utf.shapes"], loops := true, apart := false, laid := [("bellwether/utf.shapes", laid_bellwether_utf_shapes)], narrowed := true }
def FieldsPutsUptoSaid : Prop := fieldsPutsUptoRow.holds Tryd.pinned (OpenSpec.upto fieldsPutsSpec)

/-- 'bellwetherlaw07.FieldsSpoils', WHERE WHAT IT READS IS OF BULK AT MOST 1048576: true; the input reads as it did. -/
def fieldsSpoilsUptoRow : OpenClaim := { program := "ytnojhgpaplecgaadoor", sum := "2605da487a64cd54b866ea854b0de9e17e1a79c87c0b68bd8ac602c28ed45f72", func := "bellwether/bellwetherlaw07.FieldsSpoils", spec := "fieldsSpoils", unfollowed := true, recurses := true, named := ["bellwether/utf.shapes"], loops := true, apart := false, laid := [("bellwether/utf.shapes", laid_bellwether_utf_shapes)], narrowed := true }
def FieldsSpoilsUptoSaid : Prop := fieldsSpoilsUptoRow.holds Tryd.pinned (OpenSpec.upto fieldsSpoilsSpec)

/-- 'bellwetherlaw07.FieldsSymbols', WHERE WHAT IT READS IS OF BULK AT MOST 1048576: true; the input reads as it did. -/
def fieldsSymbolsUptoRow : OpenClaim := { program := "ytnojhgpaplecgaadoor", sum := "2605da487a64cd54b866ea854b0de9e17e1a79c87c0b68bd8ac602c28ed45f72", func := "bellwether/bellwetherlaw07.FieldsSymbols", spec := "fieldsSymbols", unfollowed := true, recurses := true, named := ["bellwether/utf.shapes"], loops := true, apart := false, laid := [("bellwether/utf.shapes", laid_bellwether_utf_shapes)], narrowed := true }
def FieldsSymbolsUptoSaid : Prop := fieldsSymbolsUptoRow.holds Tryd.pinned (OpenSpec.upto fieldsSymbolsSpec)

/-- 'bellwetherlaw07.FieldsNil', WHERE WHAT IT READS IS OF BULK AT MOST 1048576: true; the input reads as it did. -/
def fieldsNilUptoRow : OpenClaim := { program := "ytnojhgpaplecgaadoor", sum := "2605da487a64cd54b866ea854b0de9e17e1a79c87c0b68bd8ac602c28ed45f72", func := "bellwether/bellwetherlaw07.FieldsNil", spec := "fieldsNil", unfollowed := true, recurses := true, named := ["bellwether/utf.shapes"], apart := false, laid := [("bellwether/utf.shapes", laid_bellwether_utf_shapes)], narrowed := true }
def FieldsNilUptoSaid : Prop := fieldsNilUptoRow.holds Tryd.pinned (OpenSpec.upto fieldsNilSpec)

end Rows
end Go.Proofs.YtnojhgpaplecgaaDoor
