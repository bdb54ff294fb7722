/-
  DERIVED. GIVEN WITH THE SEED: THE CARDS: each row of YtikjnbognjicdaaDoorRows.lean that lists a variable, with what it lists TIED to the program's text (the seventh form; the later family's looks); each row that meets fmt, with fmt's text TOLD by the authors' own Lean function (tested against real Go, not proved from fmt's source: count such statements apart). THE CARD IS WHAT COUNTS. Prove the row's statement (the work); the ties are given (YtikjnbognjicdaaDoorTie.lean); close each card by the builder's one call (the guide's Derived/Test/ToyasCard.lean, 'card_holds'). Laid BY PROGRAM, IN A SANDBOX (cutbox-door.mjs). By AI agents, Wed Nov 11 2026. No macro, syntax, notation, axiom, sorry.
-/
import Derived.Test.YtikjnbognjicdaaDoorRows
import GoSem.ClaimSeven
namespace Go.Proofs.YtikjnbognjicdaaDoor
namespace Rows

/-- THE TIED CARD OF 'bellwetherlaw05.EncodeWrites'. -/
def encodeWritesCard : Claim7 := { stood := { row := encodeWritesRow, standIns := [], harness := (true, "358a735226722c29bf3e9526351e016b176f6179850b4e31081489e01f50551a"), looks := true }, kinds := [], alts := [], laidByText := true, laidKinds := [.data], laidTests := true, laidLooks := .later }
def EncodeWritesCardSaid : Prop := Claim7.holds Tryd.pinned (.plain (OpenSpec.ofChange encodeWritesSpec)) encodeWritesCard

/-- THE TIED CARD OF 'bellwetherlaw06.DecodeBack'. -/
def decodeBackCard : Claim7 := { stood := { row := decodeBackRow, standIns := [], harness := (true, "358a735226722c29bf3e9526351e016b176f6179850b4e31081489e01f50551a"), looks := true }, kinds := [], alts := [], laidByText := true, laidKinds := [.data], laidTests := true, laidLooks := .later }
def DecodeBackCardSaid : Prop := Claim7.holds Tryd.pinned (.plain (OpenSpec.ofChange decodeBackSpec)) decodeBackCard

/-- THE TIED CARD OF 'bellwetherlaw06.DecodeShorter'. -/
def decodeShorterCard : Claim7 := { stood := { row := decodeShorterRow, standIns := [], harness := (true, "358a735226722c29bf3e9526351e016b176f6179850b4e31081489e01f50551a"), looks := true }, kinds := [], alts := [], laidByText := true, laidKinds := [.data], laidTests := true, laidLooks := .later }
def DecodeShorterCardSaid : Prop := Claim7.holds Tryd.pinned (.plain (OpenSpec.ofChange decodeShorterSpec)) decodeShorterCard

/-- THE TIED CARD OF 'bellwetherlaw06.DecodeOwn'. -/
def decodeOwnCard : Claim7 := { stood := { row := decodeOwnRow, standIns := [], harness := (true, "358a735226722c29bf3e9526351e016b176f6179850b4e31081489e01f50551a"), looks := true }, kinds := [], alts := [], laidByText := true, laidKinds := [.data], laidTests := true, laidLooks := .later }
def DecodeOwnCardSaid : Prop := Claim7.holds Tryd.pinned (.plain (OpenSpec.ofChange decodeOwnSpec)) decodeOwnCard

/-- THE TIED CARD OF 'bellwetherlaw06.DecodeWide'. -/
def decodeWideCard : Claim7 := { stood := { row := decodeWideRow, standIns := [], harness := (true, "358a735226722c29bf3e9526351e016b176f6179850b4e31081489e01f50551a"), looks := true }, kinds := [], alts := [], laidByText := true, laidKinds := [.data], laidTests := true, laidLooks := .later }
def DecodeWideCardSaid : Prop := Claim7.holds Tryd.pinned (.plain (OpenSpec.ofChange decodeWideSpec)) decodeWideCard

/-- THE TIED CARD OF 'bellwetherlaw06.DecodeCodes'. -/
def decodeCodesCard : Claim7 := { stood := { row := decodeCodesRow, standIns := [], harness := (true, "358a735226722c29bf3e9526351e016b176f6179850b4e31081489e01f50551a"), looks := true }, kinds := [], alts := [], laidByText := true, laidKinds := [.data], laidTests := true, laidLooks := .later }
def DecodeCodesCardSaid : Prop := Claim7.holds Tryd.pinned (.plain (OpenSpec.ofChange decodeCodesSpec)) decodeCodesCard

/-- THE SECOND FORM's CARD OF 'bellwetherlaw05.EncodeWrites'. -/
def encodeWritesUptoCard : Claim7 := { stood := { row := encodeWritesUptoRow, standIns := [], harness := (true, "358a735226722c29bf3e9526351e016b176f6179850b4e31081489e01f50551a"), looks := true }, kinds := [], alts := [], laidByText := true, laidKinds := [.data], laidTests := true, laidLooks := .later }
def EncodeWritesUptoCardSaid : Prop := Claim7.holds Tryd.pinned (.plain (OpenSpec.upto encodeWritesSpec)) encodeWritesUptoCard

/-- THE SECOND FORM's CARD OF 'bellwetherlaw06.DecodeBack'. -/
def decodeBackUptoCard : Claim7 := { stood := { row := decodeBackUptoRow, standIns := [], harness := (true, "358a735226722c29bf3e9526351e016b176f6179850b4e31081489e01f50551a"), looks := true }, kinds := [], alts := [], laidByText := true, laidKinds := [.data], laidTests := true, laidLooks := .later }
def DecodeBackUptoCardSaid : Prop := Claim7.holds Tryd.pinned (.plain (OpenSpec.upto decodeBackSpec)) decodeBackUptoCard

/-- THE SECOND FORM's CARD OF 'bellwetherlaw06.DecodeShorter'. -/
def decodeShorterUptoCard : Claim7 := { stood := { row := decodeShorterUptoRow, standIns := [], harness := (true, "358a735226722c29bf3e9526351e016b176f6179850b4e31081489e01f50551a"), looks := true }, kinds := [], alts := [], laidByText := true, laidKinds := [.data], laidTests := true, laidLooks := .later }
def DecodeShorterUptoCardSaid : Prop := Claim7.holds Tryd.pinned (.plain (OpenSpec.upto decodeShorterSpec)) decodeShorterUptoCard

/-- THE SECOND FORM's CARD OF 'bellwetherlaw06.DecodeOwn'. -/
def decodeOwnUptoCard : Claim7 := { stood := { row := decodeOwnUptoRow, standIns := [], harness := (true, "358a735226722c29bf3e9526351e016b176f6179850b4e31081489e01f50551a"), looks := true }, kinds := [], alts := [], laidByText := true, laidKinds := [.data], laidTests := true, laidLooks := .later }
def DecodeOwnUptoCardSaid : Prop := Claim7.holds Tryd.pinned (.plain (OpenSpec.upto decodeOwnSpec)) decodeOwnUptoCard

/-- THE SECOND FORM's CARD OF 'bellwetherlaw06.DecodeWide'. -/
def decodeWideUptoCard : Claim7 := { stood := { row := decodeWideUptoRow, standIns := [], harness := (true, "358a735226722c29bf3e9526351e016b176f6179850b4e31081489e01f50551a"), looks := true }, kinds := [], alts := [], laidByText := true, laidKinds := [.data], laidTests := true, laidLooks := .later }
def DecodeWideUptoCardSaid : Prop := Claim7.holds Tryd.pinned (.plain (OpenSpec.upto decodeWideSpec)) decodeWideUptoCard

/-- THE SECOND FORM's CARD OF 'bellwetherlaw06.DecodeCodes'. -/
def decodeCodesUptoCard : Claim7 := { stood := { row := decodeCodesUptoRow, standIns := [], harness := (true, "358a735226722c29bf3e9526351e016b176f6179850b4e31081489e01f50551a"), looks := true }, kinds := [], alts := [], laidByText := true, laidKinds := [.data], laidTests := true, laidLooks := .later }
def DecodeCodesUptoCardSaid : Prop := Claim7.holds Tryd.pinned (.plain (OpenSpec.upto decodeCodesSpec)) decodeCodesUptoCard
end Rows
end Go.Proofs.YtikjnbognjicdaaDoor
