/-
  NARROWER THAN 'FOR EVERY INPUT', by the rows' own cells (each row's printed sentence says how): ValueRights: loops, laid · ValueMakes: loops, laid · ValueSames: loops, laid · ValueGets: loops, laid · ValueKids: loops, laid · ValueRanges: laid · ValueAlike: loops, laid.
  DERIVED. THE GIVEN ROWS OF THIS SEAT. 7 by the template 'for every input the law returns true; each argument reads behind the call as it read before'; 0 by the template 'total and deterministic' (their statements: YtdbcdabijolagaaDoorTotals.lean).
  GIVEN WITH THE SEED: the statements are not yours to turn. If you find one false, say at which input.
  Laid BY PROGRAM, IN A SANDBOX (cutbox-rows.mjs): the forced cells as the released guide's own fill.sh prints them over the translation 660faaf6049320f5… (all of the seat's roots in one cut). By AI agents, Wed Nov 11 2026. No macro, syntax, notation, axiom, sorry.
-/
import Derived.Test.YtdbcdabijolagaaDoorChecked
import GoSem.Claim
import GoSem.ClaimJoined
import GoSem.ClaimMapViews
import Derived.JoinedTies
import Derived.KernelRfl
namespace Go.Proofs.YtdbcdabijolagaaDoor
/- THE CELL 'sum', in the pinned program and in every row, IS THE sha256 OF THE DUMP (.gsa) THAT YtdbcdabijolagaaDoorProg.lean LOADS. Nothing in Lean hashes anything: it is a label: what it is worth is what the hold of that sum in a sandbox is worth. -/
noncomputable def Tryd.pinned : Pinned := { name := "ytdbcdabijolagaadoor", sum := "660faaf6049320f577e860fdac663a4eece6b9f61f17bd0414af78a1843f035e", checked := Tryd.checked }
namespace Rows
def none {H : Type} : Left H := { results := [], args := [] }

/- WHAT THE LISTED PACKAGE-LEVEL VARIABLES READ AS WHEN THE CALL BEGINS. Each datum BY PROGRAM (the guide's laid-datum.mjs) off the statement by which the dump's own 'gosem.cut.vars' lays the variable. In a bare row this is a premise. The card (YtdbcdabijolagaaDoorCards.lean) ties it to the program's text. -/
def laid_bellwether_utf_shapes {H : Type} : DataW H := .agg [.agg [.lit (.int .u32 127), .lit (.int .u8 0), .lit (.int .u8 127)], .agg [.lit (.int .u32 2047), .lit (.int .u8 192), .lit (.int .u8 31)], .agg [.lit (.int .u32 65535), .lit (.int .u8 224), .lit (.int .u8 15)], .agg [.lit (.int .u32 1114111), .lit (.int .u8 240), .lit (.int .u8 7)]]

/-- 'bellwetherlaw04.ValueRights': WHATEVER THE INPUT: true; the input reads as it did. -/
def valueRightsSpec : ChangeSpec := { name := "valueRights", fn := fun _ => fun
  | [d] => { results := [.lit (.bool true)], args := [d] }
  | _ => none }
def valueRightsRow : OpenClaim := { program := "ytdbcdabijolagaadoor", sum := "660faaf6049320f577e860fdac663a4eece6b9f61f17bd0414af78a1843f035e", func := "bellwether/bellwetherlaw04.ValueRights", spec := "valueRights", unfollowed := true, recurses := true, named := ["bellwether/utf.shapes"], loops := true, apart := false, laid := [("bellwether/utf.shapes", laid_bellwether_utf_shapes)] }
def ValueRightsSaid : Prop := valueRightsRow.holds Tryd.pinned (OpenSpec.ofChange valueRightsSpec)

/-- ITS FALSE NEIGHBOUR: 'it returns false'. Refute it at one input. -/
def valueRightsWrong : ChangeSpec := { name := "valueRights", fn := fun _ => fun
  | [d] => { results := [.lit (.bool false)], args := [d] }
  | _ => none }
def ValueRightsWrongFalsely : Prop := valueRightsRow.holds Tryd.pinned (OpenSpec.ofChange valueRightsWrong)

/-- 'bellwetherlaw04.ValueMakes': WHATEVER THE INPUT: true; the input reads as it did. -/
def valueMakesSpec : ChangeSpec := { name := "valueMakes", fn := fun _ => fun
  | [d1, d2, d3, d4] => { results := [.lit (.bool true)], args := [d1, d2, d3, d4] }
  | _ => none }
def valueMakesRow : OpenClaim := { program := "ytdbcdabijolagaadoor", sum := "660faaf6049320f577e860fdac663a4eece6b9f61f17bd0414af78a1843f035e", func := "bellwether/bellwetherlaw04.ValueMakes", spec := "valueMakes", unfollowed := true, recurses := true, named := ["bellwether/utf.shapes"], loops := true, apart := false, laid := [("bellwether/utf.shapes", laid_bellwether_utf_shapes)] }
def ValueMakesSaid : Prop := valueMakesRow.holds Tryd.pinned (OpenSpec.ofChange valueMakesSpec)

/-- ITS FALSE NEIGHBOUR: 'it returns false'. Refute it at one input. -/
def valueMakesWrong : ChangeSpec := { name := "valueMakes", fn := fun _ => fun
  | [d1, d2, d3, d4] => { results := [.lit (.bool false)], args := [d1, d2, d3, d4] }
  | _ => none }
def ValueMakesWrongFalsely : Prop := valueMakesRow.holds Tryd.pinned (OpenSpec.ofChange valueMakesWrong)

/-- 'bellwetherlaw04.ValueSames': WHATEVER THE INPUT: true; the input reads as it did. -/
def valueSamesSpec : ChangeSpec := { name := "valueSames", fn := fun _ => fun
  | [d1, d2] => { results := [.lit (.bool true)], args := [d1, d2] }
  | _ => none }
def valueSamesRow : OpenClaim := { program := "ytdbcdabijolagaadoor", sum := "660faaf6049320f577e860fdac663a4eece6b9f61f17bd0414af78a1843f035e", func := "bellwether/bellwetherlaw04.ValueSames", spec := "valueSames", unfollowed := true, recurses := true, named := ["bellwether/utf.shapes"], loops := true, apart := false, laid := [("bellwether/utf.shapes", laid_bellwether_utf_shapes)] }
def ValueSamesSaid : Prop := valueSamesRow.holds Tryd.pinned (OpenSpec.ofChange valueSamesSpec)

/-- ITS FALSE NEIGHBOUR: 'it returns false'. Refute it at one input. -/
def valueSamesWrong : ChangeSpec := { name := "valueSames", fn := fun _ => fun
  | [d1, d2] => { results := [.lit (.bool false)], args := [d1, d2] }
  | _ => none }
def ValueSamesWrongFalsely : Prop := valueSamesRow.holds Tryd.pinned (OpenSpec.ofChange valueSamesWrong)

/-- 'bellwetherlaw04.ValueGets': WHATEVER THE INPUT: true; the input reads as it did. -/
def valueGetsSpec : ChangeSpec := { name := "valueGets", fn := fun _ => fun
  | [d1, d2] => { results := [.lit (.bool true)], args := [d1, d2] }
  | _ => none }
def valueGetsRow : OpenClaim := { program := "ytdbcdabijolagaadoor", sum := "660faaf6049320f577e860fdac663a4eece6b9f61f17bd0414af78a1843f035e", func := "bellwether/bellwetherlaw04.ValueGets", spec := "valueGets", unfollowed := true, recurses := true, named := ["bellwether/utf.shapes"], loops := true, apart := false, laid := [("bellwether/utf.shapes", laid_bellwether_utf_shapes)] }
def ValueGetsSaid : Prop := valueGetsRow.holds Tryd.pinned (OpenSpec.ofChange valueGetsSpec)

/-- ITS FALSE NEIGHBOUR: 'it returns false'. Refute it at one input. -/
def valueGetsWrong : ChangeSpec := { name := "valueGets", fn := fun _ => fun
  | [d1, d2] => { results := [.lit (.bool false)], args := [d1, d2] }
  | _ => none }
def ValueGetsWrongFalsely : Prop := valueGetsRow.holds Tryd.pinned (OpenSpec.ofChange valueGetsWrong)

/-- 'bellwetherlaw04.ValueKids': WHATEVER THE INPUT: true; the input reads as it did. -/
def valueKidsSpec : ChangeSpec := { name := "valueKids", fn := fun _ => fun
  | [d1, d2] => { results := [.lit (.bool true)], args := [d1, d2] }
  | _ => none }
def valueKidsRow : OpenClaim := { program := "ytdbcdabijolagaadoor", sum := "660faaf6049320f577e860fdac663a4eece6b9f61f17bd0414af78a1843f035e", func := "bellwether/bellwetherlaw04.ValueKids", spec := "valueKids", unfollowed := true, recurses := true, named := ["bellwether/utf.shapes"], loops := true, apart := false, laid := [("bellwether/utf.shapes", laid_bellwether_utf_shapes)] }
def ValueKidsSaid : Prop := valueKidsRow.holds Tryd.pinned (OpenSpec.ofChange valueKidsSpec)

/-- ITS FALSE NEIGHBOUR: 'it returns false'. Refute it at one input. -/
def valueKidsWrong : ChangeSpec := { name := "valueKids", fn := fun _ => fun
  | [d1, d2] => { results := [.lit (.bool false)], args := [d1, d2] }
  | _ => none }
def ValueKidsWrongFalsely : Prop := valueKidsRow.holds Tryd.pinned (OpenSpec.ofChange valueKidsWrong)

/-- 'bellwetherlaw04.ValueRanges': WHATEVER THE INPUT: true; the input reads as it did. -/
def valueRangesSpec : ChangeSpec := { name := "valueRanges", fn := fun _ => fun
  | [d] => { results := [.lit (.bool true)], args := [d] }
  | _ => none }
def valueRangesRow : OpenClaim := { program := "ytdbcdabijolagaadoor", sum := "660faaf6049320f577e860fdac663a4eece6b9f61f17bd0414af78a1843f035e", func := "bellwether/bellwetherlaw04.ValueRanges", spec := "valueRanges", unfollowed := true, recurses := true, named := ["bellwether/utf.shapes"], apart := false, laid := [("bellwether/utf.shapes", laid_bellwether_utf_shapes)] }
def ValueRangesSaid : Prop := valueRangesRow.holds Tryd.pinned (OpenSpec.ofChange valueRangesSpec)

/-- ITS FALSE NEIGHBOUR: 'it returns false'. Refute it at one input. -/
def valueRangesWrong : ChangeSpec := { name := "valueRanges", fn := fun _ => fun
  | [d] => { results := [.lit (.bool false)], args := [d] }
  | _ => none }
def ValueRangesWrongFalsely : Prop := valueRangesRow.holds Tryd.pinned (OpenSpec.ofChange valueRangesWrong)

/-- 'bellwetherlaw04.ValueAlike': WHATEVER THE INPUT: true; the input reads as it did. -/
def valueAlikeSpec : ChangeSpec := { name := "valueAlike", fn := fun _ => fun
  | [d] => { results := [.lit (.bool true)], args := [d] }
  | _ => none }
def valueAlikeRow : OpenClaim := { program := "ytdbcdabijolagaadoor", sum := "660faaf6049320f577e860fdac663a4eece6b9f61f17bd0414af78a1843f035e", func := "bellwether/bellwetherlaw04.ValueAlike", spec := "valueAlike", unfollowed := true, recurses := true, named := ["bellwether/utf.shapes"], loops := true, apart := false, laid := [("bellwether/utf.shapes", laid_bellwether_utf_shapes)] }
def ValueAlikeSaid : Prop := valueAlikeRow.holds Tryd.pinned (OpenSpec.ofChange valueAlikeSpec)

/-- ITS FALSE NEIGHBOUR: 'it returns false'. Refute it at one input. -/
def valueAlikeWrong : ChangeSpec := { name := "valueAlike", fn := fun _ => fun
  | [d] => { results := [.lit (.bool false)], args := [d] }
  | _ => none }
def ValueAlikeWrongFalsely : Prop := valueAlikeRow.holds Tryd.pinned (OpenSpec.ofChange valueAlikeWrong)

/- THE SECOND FORM. 'bulk': how many values and letters a reading holds, each counted each time it is reached (what is shared counts as often as it is met; a slice's spare places count too). A statement '..UptoSaid' is the law's where the arguments, and the package variables that the reading takes, are together of bulk at most 1048576: NARROWER than '..Said'. Prove '..Said' where nothing that the law and all that it calls make is longer than what came in: it says more and counts as full. Else prove '..UptoSaid'. A law counts once. -/
mutual
def uptoBulk {H : Type} : DataW H → Nat
  | .lit (.string bytes) => bytes.length + 1
  | .lit _ => 1
  | .nil => 1
  | .ptr d => uptoBulk d + 1
  | .slice elems spare => uptoBulkAll elems + uptoBulkAll spare + 1
  | .agg parts => uptoBulkAll parts + 1
  | .iface _ d => uptoBulk d + 1
  | .map entries => uptoBulkEntries entries + 1
  | .held _ => 1
def uptoBulkAll {H : Type} : List (DataW H) → Nat
  | [] => 0
  | d :: r => uptoBulk d + uptoBulkAll r
def uptoBulkEntries {H : Type} : List (Lit × DataW H) → Nat
  | [] => 0
  | x :: r => uptoBulkEntry x + uptoBulkEntries r
def uptoBulkEntry {H : Type} : Lit × DataW H → Nat
  | (.string bytes, d) => bytes.length + uptoBulk d + 1
  | (_, d) => uptoBulk d + 1
 end
def uptoSmall : (H : Type) → List (DataW H) → Bool := fun _ ds => decide (uptoBulkAll ds ≤ 1048576)
def OpenSpec.upto (s : _root_.Go.ChangeSpec) : _root_.Go.OpenSpec := { _root_.Go.OpenSpec.ofChange s with cond := some uptoSmall }

/-- 'bellwetherlaw04.ValueRights', WHERE WHAT IT READS IS OF BULK AT MOST 1048576: true; the input reads as it did. -/
def valueRightsUptoRow : OpenClaim := { program := "ytdbcdabijolagaadoor", sum := "660faaf6049320f577e860fdac663a4eece6b9f61f17bd0414af78a1843f035e", func := "bellwether/bellwetherlaw04.ValueRights", spec := "valueRights", unfollowed := true, recurses := true, named := ["bellwether/utf.shapes"], loops := true, apart := false, laid := [("bellwether/utf.shapes", laid_bellwether_utf_shapes)], narrowed := true }
def ValueRightsUptoSaid : Prop := valueRightsUptoRow.holds Tryd.pinned (OpenSpec.upto valueRightsSpec)

/-- 'bellwetherlaw04.ValueMakes', WHERE WHAT IT READS IS OF BULK AT MOST 1048576: true; the input reads as it did. -/
def valueMakesUptoRow : OpenClaim := { program := "ytdbcdabijolagaadoor", sum := "660faaf6049320f577e860fdac663a4eece6b9f61f17bd0414af78a1843f035e", func := "bellwether/bellwetherlaw04.ValueMakes", spec := "valueMakes", unfollowed := true, recurses := true, named := ["bellwether/utf.shapes"], loops := true, apart := false, laid := [("bellwether/utf.shapes", laid_bellwether_utf_shapes)], narrowed := true }
def ValueMakesUptoSaid : Prop := valueMakesUptoRow.holds Tryd.pinned (OpenSpec.upto valueMakesSpec)

/-- 'bellwetherlaw04.ValueSames', WHERE WHAT IT READS IS OF BULK AT MOST 1048576: true; the input reads as it did. -/
def valueSamesUptoRow : OpenClaim := { program := "ytdbcdabijolagaadoor", sum := "660faaf6049320f577e860fdac663a4eece6b9f61f17bd0414af78a1843f035e", func := "bellwether/bellwetherlaw04.ValueSames", spec := "valueSames", unfollowed := true, recurses := true, named := ["bellwether/utf.shapes"], loops := true, apart := false, laid := [("bellwether/utf.shapes", laid_bellwether_utf_shapes)], narrowed := true }
def ValueSamesUptoSaid : Prop := valueSamesUptoRow.holds Tryd.pinned (OpenSpec.upto valueSamesSpec)

/-- 'bellwetherlaw04.ValueGets', WHERE WHAT IT READS IS OF BULK AT MOST 1048576: true; the input reads as it did. -/
def valueGetsUptoRow : OpenClaim := { program := "ytdbcdabijolagaadoor", sum := "660faaf6049320f577e860fdac663a4eece6b9f61f17bd0414af78a1843f035e", func := "bellwether/bellwetherlaw04.ValueGets", spec := "valueGets", unfollowed := true, recurses := true, named := ["bellwether/utf.shapes"], loops := true, apart := false, laid := [("bellwether/utf.shapes", laid_bellwether_utf_shapes)], narrowed := true }
def ValueGetsUptoSaid : Prop := valueGetsUptoRow.holds Tryd.pinned (OpenSpec.upto valueGetsSpec)

/-- 'bellwetherlaw04.ValueKids', WHERE WHAT IT READS IS OF BULK AT MOST 1048576: true; the input reads as it did. -/
def valueKidsUptoRow : OpenClaim := { program := "ytdbcdabijolagaadoor", sum := "660faaf6049320f577e860fdac663a4eece6b9f61f17bd0414af78a1843f035e", func := "bellwether/bellwetherlaw04.ValueKids", spec := "valueKids", unfollowed := true, recurses := true, named := ["bellwether/utf.shapes"], loops := true, apart := false, laid := [("bellwether/utf.shapes", laid_bellwether_utf_shapes)], narrowed := true }
def ValueKidsUptoSaid : Prop := valueKidsUptoRow.holds Tryd.pinned (OpenSpec.upto valueKidsSpec)

/-- 'bellwetherlaw04.ValueRanges', WHERE WHAT IT READS IS OF BULK AT MOST 1048576: true; the input reads as it did. -/
def valueRangesUptoRow : OpenClaim := { program := "ytdbcdabijolagaadoor", sum := "660faaf6049320f577e860fdac663a4eece6b9f61f17bd0414af78a1843f035e", func := "bellwether/bellwetherlaw04.ValueRanges", spec := "valueRanges", unfollowed := true, recurses := true, named := ["bellwether/utf.shapes"], apart := false, laid := [("bellwether/utf.shapes", laid_bellwether_utf_shapes)], narrowed := true }
def ValueRangesUptoSaid : Prop := valueRangesUptoRow.holds Tryd.pinned (OpenSpec.upto valueRangesSpec)

/-- 'bellwetherlaw04.ValueAlike', WHERE WHAT IT READS IS OF BULK AT MOST 1048576: true; the input reads as it did. -/
def valueAlikeUptoRow : OpenClaim := { program := "ytdbcdabijolagaadoor", sum := "660faaf6049320f577e860fdac663a4eece6b9f61f17bd0414af78a1843f035e", func := "bellwether/bellwetherlaw04.ValueAlike", spec := "valueAlike", unfollowed := true, recurses := true, named := ["bellwether/utf.shapes"], loops := true, apart := false, laid := [("bellwether/utf.shapes", laid_bellwether_utf_shapes)], narrowed := true }
def ValueAlikeUptoSaid : Prop := valueAlikeUptoRow.holds Tryd.pinned (OpenSpec.upto valueAlikeSpec)

end Rows
end Go.Proofs.YtdbcdabijolagaaDoor
