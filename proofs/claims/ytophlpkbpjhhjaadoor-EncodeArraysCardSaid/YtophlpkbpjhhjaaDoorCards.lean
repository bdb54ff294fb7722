/-
  DERIVED. GIVEN WITH THE SEED: THE CARDS: each row of YtophlpkbpjhhjaaDoorRows.lean that lists a variable, with what it lists TIED to the program's text (the seventh form; the later family's looks); each row that meets fmt, with fmt's text TOLD by the authors' own Lean function (tested against real Go, not proved from fmt's source: count such statements apart). THE CARD IS WHAT COUNTS. Prove the row's statement (the work); the ties are given (YtophlpkbpjhhjaaDoorTie.lean); close each card by the builder's one call (the guide's Derived/Test/ToyasCard.lean, 'card_holds'). Laid BY PROGRAM, IN A SANDBOX (cutbox-door.mjs). By AI agents, Wed Nov 11 2026. No macro, syntax, notation, axiom, sorry.
-/
import Derived.Test.YtophlpkbpjhhjaaDoorRows
import GoSem.ClaimSeven
namespace Go.Proofs.YtophlpkbpjhhjaaDoor
namespace Rows

/-- THE TIED CARD OF 'bellwetherlaw05.EncodeWrites'. -/
def encodeWritesCard : Claim7 := { stood := { row := encodeWritesRow, standIns := [], harness := (true, "ee750f1a58616f3fc7c0876f49c5c987e125d704ef100d54aa8dcc08ce019dbb"), looks := false }, kinds := [], alts := [], laidByText := true, laidKinds := [.data], laidTests := true, laidLooks := .later }
def EncodeWritesCardSaid : Prop := Claim7.holds Tryd.pinned (.plain (OpenSpec.ofChange encodeWritesSpec)) encodeWritesCard

/-- THE TIED CARD OF 'bellwetherlaw05.EncodeApart'. -/
def encodeApartCard : Claim7 := { stood := { row := encodeApartRow, standIns := [], harness := (true, "ee750f1a58616f3fc7c0876f49c5c987e125d704ef100d54aa8dcc08ce019dbb"), looks := false }, kinds := [], alts := [], laidByText := true, laidKinds := [.data], laidTests := true, laidLooks := .later }
def EncodeApartCardSaid : Prop := Claim7.holds Tryd.pinned (.plain (OpenSpec.ofChange encodeApartSpec)) encodeApartCard

/-- THE TIED CARD OF 'bellwetherlaw05.EncodeNumbers'. -/
def encodeNumbersCard : Claim7 := { stood := { row := encodeNumbersRow, standIns := [], harness := (true, "ee750f1a58616f3fc7c0876f49c5c987e125d704ef100d54aa8dcc08ce019dbb"), looks := false }, kinds := [], alts := [], laidByText := true, laidKinds := [.data], laidTests := true, laidLooks := .later }
def EncodeNumbersCardSaid : Prop := Claim7.holds Tryd.pinned (.plain (OpenSpec.ofChange encodeNumbersSpec)) encodeNumbersCard

/-- THE TIED CARD OF 'bellwetherlaw05.EncodeTexts'. -/
def encodeTextsCard : Claim7 := { stood := { row := encodeTextsRow, standIns := [], harness := (true, "ee750f1a58616f3fc7c0876f49c5c987e125d704ef100d54aa8dcc08ce019dbb"), looks := false }, kinds := [], alts := [], laidByText := true, laidKinds := [.data], laidTests := true, laidLooks := .later }
def EncodeTextsCardSaid : Prop := Claim7.holds Tryd.pinned (.plain (OpenSpec.ofChange encodeTextsSpec)) encodeTextsCard

/-- THE TIED CARD OF 'bellwetherlaw05.EncodeArrays'. -/
def encodeArraysCard : Claim7 := { stood := { row := encodeArraysRow, standIns := [], harness := (true, "ee750f1a58616f3fc7c0876f49c5c987e125d704ef100d54aa8dcc08ce019dbb"), looks := false }, kinds := [], alts := [], laidByText := true, laidKinds := [.data], laidTests := true, laidLooks := .later }
def EncodeArraysCardSaid : Prop := Claim7.holds Tryd.pinned (.plain (OpenSpec.ofChange encodeArraysSpec)) encodeArraysCard

/-- THE TIED CARD OF 'bellwetherlaw05.EncodeDescs'. -/
def encodeDescsCard : Claim7 := { stood := { row := encodeDescsRow, standIns := [], harness := (true, "ee750f1a58616f3fc7c0876f49c5c987e125d704ef100d54aa8dcc08ce019dbb"), looks := false }, kinds := [], alts := [], laidByText := true, laidKinds := [.data], laidTests := true, laidLooks := .later }
def EncodeDescsCardSaid : Prop := Claim7.holds Tryd.pinned (.plain (OpenSpec.ofChange encodeDescsSpec)) encodeDescsCard

/-- THE SECOND FORM's CARD OF 'bellwetherlaw05.EncodeWrites'. -/
def encodeWritesUptoCard : Claim7 := { stood := { row := encodeWritesUptoRow, standIns := [], harness := (true, "ee750f1a58616f3fc7c0876f49c5c987e125d704ef100d54aa8dcc08ce019dbb"), looks := false }, kinds := [], alts := [], laidByText := true, laidKinds := [.data], laidTests := true, laidLooks := .later }
def EncodeWritesUptoCardSaid : Prop := Claim7.holds Tryd.pinned (.plain (OpenSpec.upto encodeWritesSpec)) encodeWritesUptoCard

/-- THE SECOND FORM's CARD OF 'bellwetherlaw05.EncodeApart'. -/
def encodeApartUptoCard : Claim7 := { stood := { row := encodeApartUptoRow, standIns := [], harness := (true, "ee750f1a58616f3fc7c0876f49c5c987e125d704ef100d54aa8dcc08ce019dbb"), looks := false }, kinds := [], alts := [], laidByText := true, laidKinds := [.data], laidTests := true, laidLooks := .later }
def EncodeApartUptoCardSaid : Prop := Claim7.holds Tryd.pinned (.plain (OpenSpec.upto encodeApartSpec)) encodeApartUptoCard

/-- THE SECOND FORM's CARD OF 'bellwetherlaw05.EncodeNumbers'. -/
def encodeNumbersUptoCard : Claim7 := { stood := { row := encodeNumbersUptoRow, standIns := [], harness := (true, "ee750f1a58616f3fc7c0876f49c5c987e125d704ef100d54aa8dcc08ce019dbb"), looks := false }, kinds := [], alts := [], laidByText := true, laidKinds := [.data], laidTests := true, laidLooks := .later }
def EncodeNumbersUptoCardSaid : Prop := Claim7.holds Tryd.pinned (.plain (OpenSpec.upto encodeNumbersSpec)) encodeNumbersUptoCard

/-- THE SECOND FORM's CARD OF 'bellwetherlaw05.EncodeTexts'. -/
def encodeTextsUptoCard : Claim7 := { stood := { row := encodeTextsUptoRow, standIns := [], harness := (true, "ee750f1a58616f3fc7c0876f49c5c987e125d704ef100d54aa8dcc08ce019dbb"), looks := false }, kinds := [], alts := [], laidByText := true, laidKinds := [.data], laidTests := true, laidLooks := .later }
def EncodeTextsUptoCardSaid : Prop := Claim7.holds Tryd.pinned (.plain (OpenSpec.upto encodeTextsSpec)) encodeTextsUptoCard

/-- THE SECOND FORM's CARD OF 'bellwetherlaw05.EncodeArrays'. -/
def encodeArraysUptoCard : Claim7 := { stood := { row := encodeArraysUptoRow, standIns := [], harness := (true, "ee750f1a58616f3fc7c0876f49c5c987e125d704ef100d54aa8dcc08ce019dbb"), looks := false }, kinds := [], alts := [], laidByText := true, laidKinds := [.data], laidTests := true, laidLooks := .later }
def EncodeArraysUptoCardSaid : Prop := Claim7.holds Tryd.pinned (.plain (OpenSpec.upto encodeArraysSpec)) encodeArraysUptoCard

/-- THE SECOND FORM's CARD OF 'bellwetherlaw05.EncodeDescs'. -/
def encodeDescsUptoCard : Claim7 := { stood := { row := encodeDescsUptoRow, standIns := [], harness := (true, "ee750f1a58616f3fc7c0876f49c5c987e125d704ef100d54aa8dcc08ce019dbb"), looks := false }, kinds := [], alts := [], laidByText := true, laidKinds := [.data], laidTests := true, laidLooks := .later }
def EncodeDescsUptoCardSaid : Prop := Claim7.holds Tryd.pinned (.plain (OpenSpec.upto encodeDescsSpec)) encodeDescsUptoCard
end Rows
end Go.Proofs.YtophlpkbpjhhjaaDoor
