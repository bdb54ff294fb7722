/-
  NARROWER THAN 'FOR EVERY INPUT', by the rows' own cells (each row's printed sentence says how): EncodeWrites: loops, laid · DecodeBack: loops, laid · DecodeShorter: laid · DecodeOwn: laid · DecodeWide: loops, laid · DecodeCodes: laid.
  DERIVED. THE GIVEN ROWS OF THIS SEAT. 6 by the template 'for every input the law returns true; each argument reads behind the call as it read before'; 0 by the template 'total and deterministic' (their statements: YtikjnbognjicdaaDoorTotals.lean).
  GIVEN WITH THE SEED: the statements are not yours to turn. If you find one false, say at which input.
  Laid BY PROGRAM, IN A SANDBOX (cutbox-rows.mjs): the forced cells as the released guide's own fill.sh prints them over the translation 12b6bb8d9a85be7a… (all of the seat's roots in one cut). By AI agents, Wed Nov 11 2026. No macro, syntax, notation, axiom, sorry.
-/
import Derived.Test.YtikjnbognjicdaaDoorChecked
import GoSem.Claim
import GoSem.ClaimJoined
import GoSem.ClaimMapViews
import Derived.JoinedTies
import Derived.KernelRfl
namespace Go.Proofs.YtikjnbognjicdaaDoor
/- THE CELL 'sum', in the pinned program and in every row, IS THE sha256 OF THE DUMP (.gsa) THAT YtikjnbognjicdaaDoorProg.lean LOADS. Nothing in Lean hashes anything: it is a label: what it is worth is what the hold of that sum in a sandbox is worth. -/
noncomputable def Tryd.pinned : Pinned := { name := "ytikjnbognjicdaadoor", sum := "12b6bb8d9a85be7ae7364e448a25663952242228b28aa5fa5b321f1e0d25d56c", checked := Tryd.checked }
namespace Rows
def none {H : Type} : Left H := { results := [], args := [] }

/- WHAT THE LISTED PACKAGE-LEVEL VARIABLES READ AS WHEN THE CALL BEGINS. Each datum BY PROGRAM (the guide's laid-datum.mjs) off the statement by which the dump's own 'gosem.cut.vars' lays the variable. In a bare row this is a premise. The card (YtikjnbognjicdaaDoorCards.lean) ties it to the program's text. -/
def laid_bellwether_utf_shapes {H : Type} : DataW H := .agg [.agg [.lit (.int .u32 127), .lit (.int .u8 0), .lit (.int .u8 127)], .agg [.lit (.int .u32 2047), .lit (.int .u8 192), .lit (.int .u8 31)], .agg [.lit (.int .u32 65535), .lit (.int .u8 224), .lit (.int .u8 15)], .agg [.lit (.int .u32 1114111), .lit (.int .u8 240), .lit (.int .u8 7)]]

/-- 'bellwetherlaw05.EncodeWrites': WHATEVER THE INPUT: true; the input reads as it did. -/
def encodeWritesSpec : ChangeSpec := { name := "encodeWrites", fn := fun _ => fun
  | [d] => { results := [.lit (.bool true)], args := [d] }
  | _ => none }
def encodeWritesRow : OpenClaim := { program := "ytikjnbognjicdaadoor", sum := "12b6bb8d9a85be7ae7364e448a25663952242228b28aa5fa5b321f1e0d25d56c", func := "bellwether/bellwetherlaw05.EncodeWrites", spec := "encodeWrites", unfollowed := true, recurses := true, named := ["bellwether/utf.shapes"], loops := true, apart := false, laid := [("bellwether/utf.shapes", laid_bellwether_utf_shapes)] }
def EncodeWritesSaid : Prop := encodeWritesRow.holds Tryd.pinned (OpenSpec.ofChange encodeWritesSpec)

/-- ITS FALSE NEIGHBOUR: 'it returns false'. Refute it at one input. -/
def encodeWritesWrong : ChangeSpec := { name := "encodeWrites", fn := fun _ => fun
  | [d] => { results := [.lit (.bool false)], args := [d] }
  | _ => none }
def EncodeWritesWrongFalsely : Prop := encodeWritesRow.holds Tryd.pinned (OpenSpec.ofChange encodeWritesWrong)

/-- 'bellwetherlaw06.DecodeBack': WHATEVER THE INPUT: true; the input reads as it did. -/
def decodeBackSpec : ChangeSpec := { name := "decodeBack", fn := fun _ => fun
  | [d1, d2, d3] => { results := [.lit (.bool true)], args := [d1, d2, d3] }
  | _ => none }
def decodeBackRow : OpenClaim := { program := "ytikjnbognjicdaadoor", sum := "12b6bb8d9a85be7ae7364e448a25663952242228b28aa5fa5b321f1e0d25d56c", func := "bellwether/bellwetherlaw06.DecodeBack", spec := "decodeBack", unfollowed := true, recurses := true, named := ["bellwether/utf.shapes"], loops := true, apart := false, laid := [("bellwether/utf.shapes", laid_bellwether_utf_shapes)] }
def DecodeBackSaid : Prop := decodeBackRow.holds Tryd.pinned (OpenSpec.ofChange decodeBackSpec)

/-- ITS FALSE NEIGHBOUR: 'it returns false'. Refute it at one input. -/
def decodeBackWrong : ChangeSpec := { name := "decodeBack", fn := fun _ => fun
  | [d1, d2, d3] => { results := [.lit (.bool false)], args := [d1, d2, d3] }
  | _ => none }
def DecodeBackWrongFalsely : Prop := decodeBackRow.holds Tryd.pinned (OpenSpec.ofChange decodeBackWrong)

/-- 'bellwetherlaw06.DecodeShorter': WHATEVER THE INPUT: true; the input reads as it did. -/
def decodeShorterSpec : ChangeSpec := { name := "decodeShorter", fn := fun _ => fun
  | [d] => { results := [.lit (.bool true)], args := [d] }
  | _ => none }
def decodeShorterRow : OpenClaim := { program := "ytikjnbognjicdaadoor", sum := "12b6bb8d9a85be7ae7364e448a25663952242228b28aa5fa5b321f1e0d25d56c", func := "bellwether/bellwetherlaw06.DecodeShorter", spec := "decodeShorter", unfollowed := true, recurses := true, named := ["bellwether/utf.shapes"], apart := false, laid := [("bellwether/utf.shapes", laid_bellwether_utf_shapes)] }
def DecodeShorterSaid : Prop := decodeShorterRow.holds Tryd.pinned (OpenSpec.ofChange decodeShorterSpec)

/-- ITS FALSE NEIGHBOUR: 'it returns false'. Refute it at one input. -/
def decodeShorterWrong : ChangeSpec := { name := "decodeShorter", fn := fun _ => fun
  | [d] => { results := [.lit (.bool false)], args := [d] }
  | _ => none }
def DecodeShorterWrongFalsely : Prop := decodeShorterRow.holds Tryd.pinned (OpenSpec.ofChange decodeShorterWrong)

/-- 'bellwetherlaw06.DecodeOwn': WHATEVER THE INPUT: true; the input reads as it did. -/
def decodeOwnSpec : ChangeSpec := { name := "decodeOwn", fn := fun _ => fun
  | [d1, d2] => { results := [.lit (.bool true)], args := [d1, d2] }
  | _ => none }
def decodeOwnRow : OpenClaim := { program := "ytikjnbognjicdaadoor", sum := "12b6bb8d9a85be7ae7364e448a25663952242228b28aa5fa5b321f1e0d25d56c", func := "bellwether/bellwetherlaw06.DecodeOwn", spec := "decodeOwn", unfollowed := true, recurses := true, named := ["bellwether/utf.shapes"], apart := false, laid := [("bellwether/utf.shapes", laid_bellwether_utf_shapes)] }
def DecodeOwnSaid : Prop := decodeOwnRow.holds Tryd.pinned (OpenSpec.ofChange decodeOwnSpec)

/-- ITS FALSE NEIGHBOUR: 'it returns false'. Refute it at one input. -/
def decodeOwnWrong : ChangeSpec := { name := "decodeOwn", fn := fun _ => fun
  | [d1, d2] => { results := [.lit (.bool false)], args := [d1, d2] }
  | _ => none }
def DecodeOwnWrongFalsely : Prop := decodeOwnRow.holds Tryd.pinned (OpenSpec.ofChange decodeOwnWrong)

/-- 'bellwetherlaw06.DecodeWide': WHATEVER THE INPUT: true; the input reads as it did. -/
def decodeWideSpec : ChangeSpec := { name := "decodeWide", fn := fun _ => fun
  | [d1, d2, d3] => { results := [.lit (.bool true)], args := [d1, d2, d3] }
  | _ => none }
def decodeWideRow : OpenClaim := { program := "ytikjnbognjicdaadoor", sum := "12b6bb8d9a85be7ae7364e448a25663952242228b28aa5fa5b321f1e0d25d56c", func := "bellwether/bellwetherlaw06.DecodeWide", spec := "decodeWide", unfollowed := true, recurses := true, named := ["bellwether/utf.shapes"], loops := true, apart := false, laid := [("bellwether/utf.shapes", laid_bellwether_utf_shapes)] }
def DecodeWideSaid : Prop := decodeWideRow.holds Tryd.pinned (OpenSpec.ofChange decodeWideSpec)

/-- ITS FALSE NEIGHBOUR: 'it returns false'. Refute it at one input. -/
def decodeWideWrong : ChangeSpec := { name := "decodeWide", fn := fun _ => fun
  | [d1, d2, d3] => { results := [.lit (.bool false)], args := [d1, d2, d3] }
  | _ => none }
def DecodeWideWrongFalsely : Prop := decodeWideRow.holds Tryd.pinned (OpenSpec.ofChange decodeWideWrong)

/-- 'bellwetherlaw06.DecodeCodes': WHATEVER THE INPUT: true; the input reads as it did. -/
def decodeCodesSpec : ChangeSpec := { name := "decodeCodes", fn := fun _ => fun
  | [d1, d2] => { results := [.lit (.bool true)], args := [d1, d2] }
  | _ => none }
def decodeCodesRow : OpenClaim := { program := "ytikjnbognjicdaadoor", sum := "12b6bb8d9a85be7ae7364e448a25663952242228b28aa5fa5b321f1e0d25d56c", func := "bellwether/bellwetherlaw06.DecodeCodes", spec := "decodeCodes", unfollowed := true, recurses := true, named := ["bellwether/utf.shapes"], apart := false, laid := [("bellwether/utf.shapes", laid_bellwether_utf_shapes)] }
def DecodeCodesSaid : Prop := decodeCodesRow.holds Tryd.pinned (OpenSpec.ofChange decodeCodesSpec)

/-- ITS FALSE NEIGHBOUR: 'it returns false'. Refute it at one input. -/
def decodeCodesWrong : ChangeSpec := { name := "decodeCodes", fn := fun _ => fun
  | [d1, d2] => { results := [.lit (.bool false)], args := [d1, d2] }
  | _ => none }
def DecodeCodesWrongFalsely : Prop := decodeCodesRow.holds Tryd.pinned (OpenSpec.ofChange decodeCodesWrong)

/- THE SECOND FORM. 'bulk': how many values and letters a reading holds, each counted each time it is reached (what is shared counts as often as it is met; a slice's spare places count too). A statement '..UptoSaid' is the law's where the arguments, and the package variables that the reading takes, are together of bulk at most 1048576: NARROWER than '..Said'. Prove '..Said' where nothing that the law and all that it calls make is longer than what came in: it says more and counts as full. Else prove '..UptoSaid'. A law counts once. -/
mutual
def uptoBulk {H : Type} : DataW H → Nat
  | .lit (.string bytes) => bytes.length + 1
  | .lit _ => 1
  | .nil => 1
  | .ptr d => uptoBulk d + 1
  | .slice elems spare => uptoBulkAll elems + uptoBulkAll spare + 1
  | .agg parts => uptoBulkAll parts + 1
  | .iface _ d => uptoBulk d + 1
  | .map entries => uptoBulkEntries entries + 1
  | .held _ => 1
def uptoBulkAll {H : Type} : List (DataW H) → Nat
  | [] => 0
  | d :: r => uptoBulk d + uptoBulkAll r
def uptoBulkEntries {H : Type} : List (Lit × DataW H) → Nat
  | [] => 0
  | x :: r => uptoBulkEntry x + uptoBulkEntries r
def uptoBulkEntry {H : Type} : Lit × DataW H → Nat
  | (.string bytes, d) => bytes.length + uptoBulk d + 1
  | (_, d) => uptoBulk d + 1
 end
def uptoSmall : (H : Type) → List (DataW H) → Bool := fun _ ds => decide (uptoBulkAll ds ≤ 1048576)
def OpenSpec.upto (s : _root_.Go.ChangeSpec) : _root_.Go.OpenSpec := { _root_.Go.OpenSpec.ofChange s with cond := some uptoSmall }

/-- 'bellwetherlaw05.EncodeWrites', WHERE WHAT IT READS IS OF BULK AT MOST 1048576: true; the input reads as it did. -/
def encodeWritesUptoRow : OpenClaim := { program := "ytikjnbognjicdaadoor", sum := "12b6bb8d9a85be7ae7364e448a25663952242228b28aa5fa5b321f1e0d25d56c", func := "bellwether/bellwetherlaw05.EncodeWrites", spec := "encodeWrites", unfollowed := true, recurses := true, named := ["bellwether/utf.shapes"], loops := true, apart := false, laid := [("bellwether/utf.shapes", laid_bellwether_utf_shapes)], narrowed := true }
def EncodeWritesUptoSaid : Prop := encodeWritesUptoRow.holds Tryd.pinned (OpenSpec.upto encodeWritesSpec)

/-- 'bellwetherlaw06.DecodeBack', WHERE WHAT IT READS IS OF BULK AT MOST 1048576: true; the input reads as it did. -/
def decodeBackUptoRow : OpenClaim := { program := "ytikjnbognjicdaadoor", sum := "12b6bb8d9a85be7ae7364e448a25663952242228b28aa5fa5b321f1e0d25d56c", func := "bellwether/bellwetherlaw06.DecodeBack", spec := "decodeBack", unfollowed := true, recurses := true, named := ["bellwether/utf.shapes"], loops := true, apart := false, laid := [("bellwether/utf.shapes", laid_bellwether_utf_shapes)], narrowed := true }
def DecodeBackUptoSaid : Prop := decodeBackUptoRow.holds Tryd.pinned (OpenSpec.upto decodeBackSpec)

/-- 'bellwetherlaw06.DecodeShorter', WHERE WHAT IT READS IS OF BULK AT MOST 1048576: true; the input reads as it did. -/
def decodeShorterUptoRow : OpenClaim := { program := "ytikjnbognjicdaadoor", sum := "12b6bb8d9a85be7ae7364e448a25663952242228b28aa5fa5b321f1e0d25d56c", func := "bellwether/bellwetherlaw06.DecodeShorter", spec := "decodeShorter", unfollowed := true, recurses := true, named := ["bellwether/utf.shapes"], apart := false, laid := [("bellwether/utf.shapes", laid_bellwether_utf_shapes)], narrowed := true }
def DecodeShorterUptoSaid : Prop := decodeShorterUptoRow.holds Tryd.pinned (OpenSpec.upto decodeShorterSpec)

/-- 'bellwetherlaw06.DecodeOwn', WHERE WHAT IT READS IS OF BULK AT MOST 1048576: true; the input reads as it did. -/
def decodeOwnUptoRow : OpenClaim := { program := "ytikjnbognjicdaadoor", sum := "12b6bb8d9a85be7ae7364e448a25663952242228b28aa5fa5b321f1e0d25d56c", func := "bellwether/bellwetherlaw06.DecodeOwn", spec := "decodeOwn", unfollowed := true, recurses := true, named := ["bellwether/utf.shapes"], apart := false, laid := [("bellwether/utf.shapes", laid_bellwether_utf_shapes)], narrowed := true }
def DecodeOwnUptoSaid : Prop := decodeOwnUptoRow.holds Tryd.pinned (OpenSpec.upto decodeOwnSpec)

/-- 'bellwetherlaw06.DecodeWide', WHERE WHAT IT READS IS OF BULK AT MOST 1048576: true; the input reads as it did. -/
def decodeWideUptoRow : OpenClaim := { program := "ytikjnbognjicdaadoor", sum := "12b6bb8d9a85be7ae7364e448a25663952242228b28aa5fa5b321f1e0d25d56c", func := "bellwether/bellwetherlaw06.DecodeWide", spec := "decodeWide", unfollowed := true, recurses := true, named := ["bellwether/utf.shapes"], loops := true, apart := false, laid := [("bellwether/utf.shapes", laid_bellwether_utf_shapes)], narrowed := true }
def DecodeWideUptoSaid : Prop := decodeWideUptoRow.holds Tryd.pinned (OpenSpec.upto decodeWideSpec)

/-- 'bellwetherlaw06.DecodeCodes', WHERE WHAT IT READS IS OF BULK AT MOST 1048576: true; the input reads as it did. -/
def decodeCodesUptoRow : OpenClaim := { program := "ytikjnbognjicdaadoor", sum := "12b6bb8d9a85be7ae7364e448a25663952242228b28aa5fa5b321f1e0d25d56c", func := "bellwether/bellwetherlaw06.DecodeCodes", spec := "decodeCodes", unfollowed := true, recurses := true, named := ["bellwether/utf.shapes"], apart := false, laid := [("bellwether/utf.shapes", laid_bellwether_utf_shapes)], narrowed := true }
def DecodeCodesUptoSaid : Prop := decodeCodesUptoRow.holds Tryd.pinned (OpenSpec.upto decodeCodesSpec)

end Rows
end Go.Proofs.YtikjnbognjicdaaDoor
