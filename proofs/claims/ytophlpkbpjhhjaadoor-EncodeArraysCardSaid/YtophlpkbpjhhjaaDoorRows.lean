/-
  NARROWER THAN 'FOR EVERY INPUT', by the rows' own cells (each row's printed sentence says how): EncodeWrites: loops, laid · EncodeApart: loops, laid · EncodeNumbers: laid · EncodeTexts: laid · EncodeArrays: laid · EncodeDescs: loops, laid.
  DERIVED. THE GIVEN ROWS OF THIS SEAT. 6 by the template 'for every input the law returns true; each argument reads behind the call as it read before'; 0 by the template 'total and deterministic' (their statements: YtophlpkbpjhhjaaDoorTotals.lean).
  GIVEN WITH THE SEED: the statements are not yours to turn. If you find one false, say at which input.
  Laid BY PROGRAM, IN A SANDBOX (cutbox-rows.mjs): the forced cells as the released guide's own fill.sh prints them over the translation cca9ac7484d77f27… (all of the seat's roots in one cut). By AI agents, Wed Nov 11 2026. No macro, syntax, notation, axiom, sorry.
-/
import Derived.Test.YtophlpkbpjhhjaaDoorChecked
import GoSem.Claim
import GoSem.ClaimJoined
import GoSem.ClaimMapViews
import Derived.JoinedTies
import Derived.KernelRfl
namespace Go.Proofs.YtophlpkbpjhhjaaDoor
/- THE CELL 'sum', in the pinned program and in every row, IS THE sha256 OF THE DUMP (.gsa) THAT YtophlpkbpjhhjaaDoorProg.lean LOADS. Nothing in Lean hashes anything: it is a label: what it is worth is what the hold of that sum in a sandbox is worth. -/
noncomputable def Tryd.pinned : Pinned := { name := "ytophlpkbpjhhjaadoor", sum := "cca9ac7484d77f2734102ae2854742f15d9d89867ea28f3c775abf3a501b3121", checked := Tryd.checked }
namespace Rows
def none {H : Type} : Left H := { results := [], args := [] }

/- WHAT THE LISTED PACKAGE-LEVEL VARIABLES READ AS WHEN THE CALL BEGINS. Each datum BY PROGRAM (the guide's laid-datum.mjs) off the statement by which the dump's own 'gosem.cut.vars' lays the variable. In a bare row this is a premise. The card (YtophlpkbpjhhjaaDoorCards.lean) ties it to the program's text. -/
def laid_bellwether_utf_shapes {H : Type} : DataW H := .agg [.agg [.lit (.int .u32 127), .lit (.int .u8 0), .lit (.int .u8 127)], .agg [.lit (.int .u32 2047), .lit (.int .u8 192), .lit (.int .u8 31)], .agg [.lit (.int .u32 65535), .lit (.int .u8 224), .lit (.int .u8 15)], .agg [.lit (.int .u32 1114111), .lit (.int .u8 240), .lit (.int .u8 7)]]

/-- 'bellwetherlaw05.EncodeWrites': WHATEVER THE INPUT: true; the input reads as it did. -/
def encodeWritesSpec : ChangeSpec := { name := "encodeWrites", fn := fun _ => fun
  | [d] => { results := [.lit (.bool true)], args := [d] }
  | _ => none }
def encodeWritesRow : OpenClaim := { program := "ytophlpkbpjhhjaadoor", sum := "cca9ac7484d77f2734102ae2854742f15d9d89867ea28f3c775abf3a501b3121", func := "bellwether/bellwetherlaw05.EncodeWrites", spec := "encodeWrites", unfollowed := true, recurses := true, named := ["bellwether/utf.shapes"], loops := true, apart := false, laid := [("bellwether/utf.shapes", laid_bellwether_utf_shapes)] }
def EncodeWritesSaid : Prop := encodeWritesRow.holds Tryd.pinned (OpenSpec.ofChange encodeWritesSpec)

/-- ITS FALSE NEIGHBOUR: 'it returns false'. Refute it at one input. -/
def encodeWritesWrong : ChangeSpec := { name := "encodeWrites", fn := fun _ => fun
  | [d] => { results := [.lit (.bool false)], args := [d] }
  | _ => none }
def EncodeWritesWrongFalsely : Prop := encodeWritesRow.holds Tryd.pinned (OpenSpec.ofChange encodeWritesWrong)

/-- 'bellwetherlaw05.EncodeApart': WHATEVER THE INPUT: true; the input reads as it did. -/
def encodeApartSpec : ChangeSpec := { name := "encodeApart", fn := fun _ => fun
  | [d1, d2] => { results := [.lit (.bool true)], args := [d1, d2] }
  | _ => none }
def encodeApartRow : OpenClaim := { program := "ytophlpkbpjhhjaadoor", sum := "cca9ac7484d77f2734102ae2854742f15d9d89867ea28f3c775abf3a501b3121", func := "bellwether/bellwetherlaw05.EncodeApart", spec := "encodeApart", unfollowed := true, recurses := true, named := ["bellwether/utf.shapes"], loops := true, apart := false, laid := [("bellwether/utf.shapes", laid_bellwether_utf_shapes)] }
def EncodeApartSaid : Prop := encodeApartRow.holds Tryd.pinned (OpenSpec.ofChange encodeApartSpec)

/-- ITS FALSE NEIGHBOUR: 'it returns false'. Refute it at one input. -/
def encodeApartWrong : ChangeSpec := { name := "encodeApart", fn := fun _ => fun
  | [d1, d2] => { results := [.lit (.bool false)], args := [d1, d2] }
  | _ => none }
def EncodeApartWrongFalsely : Prop := encodeApartRow.holds Tryd.pinned (OpenSpec.ofChange encodeApartWrong)

/-- 'bellwetherlaw05.EncodeNumbers': WHATEVER THE INPUT: true; the input reads as it did. -/
def encodeNumbersSpec : ChangeSpec := { name := "encodeNumbers", fn := fun _ => fun
  | [d1, d2] => { results := [.lit (.bool true)], args := [d1, d2] }
  | _ => none }
def encodeNumbersRow : OpenClaim := { program := "ytophlpkbpjhhjaadoor", sum := "cca9ac7484d77f2734102ae2854742f15d9d89867ea28f3c775abf3a501b3121", func := "bellwether/bellwetherlaw05.EncodeNumbers", spec := "encodeNumbers", unfollowed := true, recurses := true, named := ["bellwether/utf.shapes"], apart := false, laid := [("bellwether/utf.shapes", laid_bellwether_utf_shapes)] }
def EncodeNumbersSaid : Prop := encodeNumbersRow.holds Tryd.pinned (OpenSpec.ofChange encodeNumbersSpec)

/-- ITS FALSE NEIGHBOUR: 'it returns false'. Refute it at one input. -/
def encodeNumbersWrong : ChangeSpec := { name := "encodeNumbers", fn := fun _ => fun
  | [d1, d2] => { results := [.lit (.bool false)], args := [d1, d2] }
  | _ => none }
def EncodeNumbersWrongFalsely : Prop := encodeNumbersRow.holds Tryd.pinned (OpenSpec.ofChange encodeNumbersWrong)

/-- 'bellwetherlaw05.EncodeTexts': WHATEVER THE INPUT: true; the input reads as it did. -/
def encodeTextsSpec : ChangeSpec := { name := "encodeTexts", fn := fun _ => fun
  | [d1, d2] => { results := [.lit (.bool true)], args := [d1, d2] }
  | _ => none }
def encodeTextsRow : OpenClaim := { program := "ytophlpkbpjhhjaadoor", sum := "cca9ac7484d77f2734102ae2854742f15d9d89867ea28f3c775abf3a501b3121", func := "bellwether/bellwetherlaw05.EncodeTexts", spec := "encodeTexts", unfollowed := true, recurses := true, named := ["bellwether/utf.shapes"], apart := false, laid := [("bellwether/utf.shapes", laid_bellwether_utf_shapes)] }
def EncodeTextsSaid : Prop := encodeTextsRow.holds Tryd.pinned (OpenSpec.ofChange encodeTextsSpec)

/-- ITS FALSE NEIGHBOUR: 'it returns false'. Refute it at one input. -/
def encodeTextsWrong : ChangeSpec := { name := "encodeTexts", fn := fun _ => fun
  | [d1, d2] => { results := [.lit (.bool false)], args := [d1, d2] }
  | _ => none }
def EncodeTextsWrongFalsely : Prop := encodeTextsRow.holds Tryd.pinned (OpenSpec.ofChange encodeTextsWrong)

/-- 'bellwetherlaw05.EncodeArrays': WHATEVER THE INPUT: true; the input reads as it did. -/
def encodeArraysSpec : ChangeSpec := { name := "encodeArrays", fn := fun _ => fun
  | [d1, d2, d3] => { results := [.lit (.bool true)], args := [d1, d2, d3] }
  | _ => none }
def encodeArraysRow : OpenClaim := { program := "ytophlpkbpjhhjaadoor", sum := "cca9ac7484d77f2734102ae2854742f15d9d89867ea28f3c775abf3a501b3121", func := "bellwether/bellwetherlaw05.EncodeArrays", spec := "encodeArrays", unfollowed := true, recurses := true, named := ["bellwether/utf.shapes"], apart := false, laid := [("bellwether/utf.shapes", laid_bellwether_utf_shapes)] }
def EncodeArraysSaid : Prop := encodeArraysRow.holds Tryd.pinned (OpenSpec.ofChange encodeArraysSpec)

/-- ITS FALSE NEIGHBOUR: 'it returns false'. Refute it at one input. -/
def encodeArraysWrong : ChangeSpec := { name := "encodeArrays", fn := fun _ => fun
  | [d1, d2, d3] => { results := [.lit (.bool false)], args := [d1, d2, d3] }
  | _ => none }
def EncodeArraysWrongFalsely : Prop := encodeArraysRow.holds Tryd.pinned (OpenSpec.ofChange encodeArraysWrong)

/-- 'bellwetherlaw05.EncodeDescs': WHATEVER THE INPUT: true; the input reads as it did. -/
def encodeDescsSpec : ChangeSpec := { name := "encodeDescs", fn := fun _ => fun
  | [d1, d2, d3] => { results := [.lit (.bool true)], args := [d1, d2, d3] }
  | _ => none }
def encodeDescsRow : OpenClaim := { program := "ytophlpkbpjhhjaadoor", sum := "cca9ac7484d77f2734102ae2854742f15d9d89867ea28f3c775abf3a501b3121", func := "bellwether/bellwetherlaw05.EncodeDescs", spec := "encodeDescs", unfollowed := true, recurses := true, named := ["bellwether/utf.shapes"], loops := true, apart := false, laid := [("bellwether/utf.shapes", laid_bellwether_utf_shapes)] }
def EncodeDescsSaid : Prop := encodeDescsRow.holds Tryd.pinned (OpenSpec.ofChange encodeDescsSpec)

/-- ITS FALSE NEIGHBOUR: 'it returns false'. Refute it at one input. -/
def encodeDescsWrong : ChangeSpec := { name := "encodeDescs", fn := fun _ => fun
  | [d1, d2, d3] => { results := [.lit (.bool false)], args := [d1, d2, d3] }
  | _ => none }
def EncodeDescsWrongFalsely : Prop := encodeDescsRow.holds Tryd.pinned (OpenSpec.ofChange encodeDescsWrong)

/- THE SECOND FORM. 'bulk': how many values and letters a reading holds, each counted each time it is reached (what is shared counts as often as it is met; a slice's spare places count too). A statement '..UptoSaid' is the law's where the arguments, and the package variables that the reading takes, are together of bulk at most 1048576: NARROWER than '..Said'. Prove '..Said' where nothing that the law and all that it calls make is longer than what came in: it says more and counts as full. Else prove '..UptoSaid'. A law counts once. -/
mutual
def uptoBulk {H : Type} : DataW H → Nat
  | .lit (.string bytes) => bytes.length + 1
  | .lit _ => 1
  | .nil => 1
  | .ptr d => uptoBulk d + 1
  | .slice elems spare => uptoBulkAll elems + uptoBulkAll spare + 1
  | .agg parts => uptoBulkAll parts + 1
  | .iface _ d => uptoBulk d + 1
  | .map entries => uptoBulkEntries entries + 1
  | .held _ => 1
def uptoBulkAll {H : Type} : List (DataW H) → Nat
  | [] => 0
  | d :: r => uptoBulk d + uptoBulkAll r
def uptoBulkEntries {H : Type} : List (Lit × DataW H) → Nat
  | [] => 0
  | x :: r => uptoBulkEntry x + uptoBulkEntries r
def uptoBulkEntry {H : Type} : Lit × DataW H → Nat
  | (.string bytes, d) => bytes.length + uptoBulk d + 1
  | (_, d) => uptoBulk d + 1
 end
def uptoSmall : (H : Type) → List (DataW H) → Bool := fun _ ds => decide (uptoBulkAll ds ≤ 1048576)
def OpenSpec.upto (s : _root_.Go.ChangeSpec) : _root_.Go.OpenSpec := { _root_.Go.OpenSpec.ofChange s with cond := some uptoSmall }

/-- 'bellwetherlaw05.EncodeWrites', WHERE WHAT IT READS IS OF BULK AT MOST 1048576: true; the input reads as it did. -/
def encodeWritesUptoRow : OpenClaim := { program := "ytophlpkbpjhhjaadoor", sum := "cca9ac7484d77f2734102ae2854742f15d9d89867ea28f3c775abf3a501b3121", func := "bellwether/bellwetherlaw05.EncodeWrites", spec := "encodeWrites", unfollowed := true, recurses := true, named := ["bellwether/utf.shapes"], loops := true, apart := false, laid := [("bellwether/utf.shapes", laid_bellwether_utf_shapes)], narrowed := true }
def EncodeWritesUptoSaid : Prop := encodeWritesUptoRow.holds Tryd.pinned (OpenSpec.upto encodeWritesSpec)

/-- 'bellwetherlaw05.EncodeApart', WHERE WHAT IT READS IS OF BULK AT MOST 1048576: true; the input reads as it did. -/
def encodeApartUptoRow : OpenClaim := { program := "ytophlpkbpjhhjaadoor", sum := "cca9ac7484d77f2734102ae2854742f15d9d89867ea28f3c775abf3a501b3121", func := "bellwether/bellwetherlaw05.EncodeApart", spec := "encodeApart", unfollowed := true, recurses := true, named := ["bellwether/utf.shapes"], loops := true, apart := false, laid := [("bellwether/utf.shapes", laid_bellwether_utf_shapes)], narrowed := true }
def EncodeApartUptoSaid : Prop := encodeApartUptoRow.holds Tryd.pinned (OpenSpec.upto encodeApartSpec)

/-- 'bellwetherlaw05.EncodeNumbers', WHERE WHAT IT READS IS OF BULK AT MOST 1048576: true; the input reads as it did. -/
def encodeNumbersUptoRow : OpenClaim := { program := "ytophlpkbpjhhjaadoor", sum := "cca9ac7484d77f2734102ae2854742f15d9d89867ea28f3c775abf3a501b3121", func := "bellwether/bellwetherlaw05.EncodeNumbers", spec := "encodeNumbers", unfollowed := true, recurses := true, named := ["bellwether/utf.shapes"], apart := false, laid := [("bellwether/utf.shapes", laid_bellwether_utf_shapes)], narrowed := true }
def EncodeNumbersUptoSaid : Prop := encodeNumbersUptoRow.holds Tryd.pinned (OpenSpec.upto encodeNumbersSpec)

/-- 'bellwetherlaw05.EncodeTexts', WHERE WHAT IT READS IS OF BULK AT MOST 1048576: true; the input reads as it did. -/
def encodeTextsUptoRow : OpenClaim := { program := "ytophlpkbpjhhjaadoor", sum := "cca9ac7484d77f2734102ae2854742f15d9d89867ea28f3c775abf3a501b3121", func := "bellwether/bellwetherlaw05.EncodeTexts", spec := "encodeTexts", unfollowed := true, recurses := true, named := ["bellwether/utf.shapes"], apart := false, laid := [("bellwether/utf.shapes", laid_bellwether_utf_shapes)], narrowed := true }
def EncodeTextsUptoSaid : Prop := encodeTextsUptoRow.holds Tryd.pinned (OpenSpec.upto encodeTextsSpec)

/-- 'bellwetherlaw05.EncodeArrays', WHERE WHAT IT READS IS OF BULK AT MOST 1048576: true; the input reads as it did. -/
def encodeArraysUptoRow : OpenClaim := { program := "ytophlpkbpjhhjaadoor", sum := "cca9ac7484d77f2734102ae2854742f15d9d89867ea28f3c775abf3a501b3121", func := "bellwether/bellwetherlaw05.EncodeArrays", spec := "encodeArrays", unfollowed := true, recurses := true, named := ["bellwether/utf.shapes"], apart := false, laid := [("bellwether/utf.shapes", laid_bellwether_utf_shapes)], narrowed := true }
def EncodeArraysUptoSaid : Prop := encodeArraysUptoRow.holds Tryd.pinned (OpenSpec.upto encodeArraysSpec)

/-- 'bellwetherlaw05.EncodeDescs', WHERE WHAT IT READS IS OF BULK AT MOST 1048576: true; the input reads as it did. -/
def encodeDescsUptoRow : OpenClaim := { program := "ytophlpkbpjhhjaadoor", sum := "cca9ac7484d77f2734102ae2854742f15d9d89867ea28f3c775abf3a501b3121", func := "bellwether/bellwetherlaw05.EncodeDescs", spec := "encodeDescs", unfollowed := true, recurses := true, named := ["bellwether/utf.shapes"], loops := true, apart := false, laid := [("bellwether/utf.shapes", laid_bellwether_utf_shapes)], narrowed := true }
def EncodeDescsUptoSaid : Prop := encodeDescsUptoRow.holds Tryd.pinned (OpenSpec.upto encodeDescsSpec)

end Rows
end Go.Proofs.YtophlpkbpjhhjaaDoor
