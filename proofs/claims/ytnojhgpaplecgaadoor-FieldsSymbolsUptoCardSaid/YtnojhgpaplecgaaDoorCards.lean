/-
  DERIVED. GIVEN WITH THE SEED: THE CARDS: each row of YtnojhgpaplecgaaDoorRows.lean that lists a variable, with what it lists TIED to the program's text (the seventh form; the later family's looks); each row that meets fmt, with fmt's text TOLD by the authors' own Lean function (tested against real Go, not proved from fmt's source: count such statements apart). THE CARD IS WHAT COUNTS. Prove the row's statement (the work); the ties are given (YtnojhgpaplecgaaDoorTie.lean); close each card by the builder's one call (the guide's Derived/Test/ToyasCard.lean, 'card_holds'). Laid BY PROGRAM, IN A SANDBOX (cutbox-door.mjs). By AI agents, Wed Nov 11 2026. No macro, syntax, notation, axiom, sorry.
-/
import Derived.Test.YtnojhgpaplecgaaDoorRows
import GoSem.ClaimSeven
namespace Go.Proofs.YtnojhgpaplecgaaDoor
namespace Rows

/-- THE TIED CARD OF 'bellwetherlaw07.FieldsPlays'. -/
def fieldsPlaysCard : Claim7 := { stood := { row := fieldsPlaysRow, standIns := [], harness := (true, "cef6fe523e3d70fb6d2970806066270746fc6fa1c75a30e0894604f6d9078086"), looks := false }, kinds := [], alts := [], laidByText := true, laidKinds := [.data], laidTests := true, laidLooks := .later }
def FieldsPlaysCardSaid : Prop := Claim7.holds Tryd.pinned (.plain (OpenSpec.ofChange fieldsPlaysSpec)) fieldsPlaysCard

/-- THE TIED CARD OF 'bellwetherlaw07.FieldsPuts'. -/
def fieldsPutsCard : Claim7 := { stood := { row := fieldsPutsRow, standIns := [], harness := (true, "cef6fe523e3d70fb6d2970806066270746fc6fa1c75a30e0894604f6d9078086"), looks := false }, kinds := [], alts := [], laidByText := true, laidKinds := [.data], laidTests := true, laidLooks := .later }
def FieldsPutsCardSaid : Prop := Claim7.holds Tryd.pinned (.plain (OpenSpec.ofChange fieldsPutsSpec)) fieldsPutsCard

/-- THE TIED CARD OF 'bellwetherlaw07.FieldsSpoils'. -/
def fieldsSpoilsCard : Claim7 := { stood := { row := fieldsSpoilsRow, standIns := [], harness := (true, "cef6fe523e3d70fb6d2970806066270746fc6fa1c75a30e0894604f6d9078086"), looks := false }, kinds := [], alts := [], laidByText := true, laidKinds := [.data], laidTests := true, laidLooks := .later }
def FieldsSpoilsCardSaid : Prop := Claim7.holds Tryd.pinned (.plain (OpenSpec.ofChange fieldsSpoilsSpec)) fieldsSpoilsCard

/-- THE TIED CARD OF 'bellwetherlaw07.FieldsSymbols'. -/
def fieldsSymbolsCard : Claim7 := { stood := { row := fieldsSymbolsRow, standIns := [], harness := (true, "cef6fe523e3d70fb6d2970806066270746fc6fa1c75a30e0894604f6d9078086"), looks := false }, kinds := [], alts := [], laidByText := true, laidKinds := [.data], laidTests := true, laidLooks := .later }
def FieldsSymbolsCardSaid : Prop := Claim7.holds Tryd.pinned (.plain (OpenSpec.ofChange fieldsSymbolsSpec)) fieldsSymbolsCard

/-- THE TIED CARD OF 'bellwetherlaw07.FieldsNil'. -/
def fieldsNilCard : Claim7 := { stood := { row := fieldsNilRow, standIns := [], harness := (true, "cef6fe523e3d70fb6d2970806066270746fc6fa1c75a30e0894604f6d9078086"), looks := false }, kinds := [], alts := [], laidByText := true, laidKinds := [.data], laidTests := true, laidLooks := .later }
def FieldsNilCardSaid : Prop := Claim7.holds Tryd.pinned (.plain (OpenSpec.ofChange fieldsNilSpec)) fieldsNilCard

/-- THE SECOND FORM's CARD OF 'bellwetherlaw07.FieldsPlays'. -/
def fieldsPlaysUptoCard : Claim7 := { stood := { row := fieldsPlaysUptoRow, standIns := [], harness := (true, "cef6fe523e3d70fb6d2970806066270746fc6fa1c75a30e0894604f6d9078086"), looks := false }, kinds := [], alts := [], laidByText := true, laidKinds := [.data], laidTests := true, laidLooks := .later }
def FieldsPlaysUptoCardSaid : Prop := Claim7.holds Tryd.pinned (.plain (OpenSpec.upto fieldsPlaysSpec)) fieldsPlaysUptoCard

/-- THE SECOND FORM's CARD OF 'bellwetherlaw07.FieldsPuts'. -/
def fieldsPutsUptoCard : Claim7 := { stood := { row := fieldsPutsUptoRow, standIns := [], harness := (true, "cef6fe523e3d70fb6d2970806066270746fc6fa1c75a30e0894604f6d9078086"), looks := false }, kinds := [], alts := [], laidByText := true, laidKinds := [.data], laidTests := true, laidLooks := .later }
def FieldsPutsUptoCardSaid : Prop := Claim7.holds Tryd.pinned (.plain (OpenSpec.upto fieldsPutsSpec)) fieldsPutsUptoCard

/-- THE SECOND FORM's CARD OF 'bellwetherlaw07.FieldsSpoils'. -/
def fieldsSpoilsUptoCard : Claim7 := { stood := { row := fieldsSpoilsUptoRow, standIns := [], harness := (true, "cef6fe523e3d70fb6d2970806066270746fc6fa1c75a30e0894604f6d9078086"), looks := false }, kinds := [], alts := [], laidByText := true, laidKinds := [.data], laidTests := true, laidLooks := .later }
def FieldsSpoilsUptoCardSaid : Prop := Claim7.holds Tryd.pinned (.plain (OpenSpec.upto fieldsSpoilsSpec)) fieldsSpoilsUptoCard

/-- THE SECOND FORM's CARD OF 'bellwetherlaw07.FieldsSymbols'. -/
def fieldsSymbolsUptoCard : Claim7 := { stood := { row := fieldsSymbolsUptoRow, standIns := [], harness := (true, "cef6fe523e3d70fb6d2970806066270746fc6fa1c75a30e0894604f6d9078086"), looks := false }, kinds := [], alts := [], laidByText := true, laidKinds := [.data], laidTests := true, laidLooks := .later }
def FieldsSymbolsUptoCardSaid : Prop := Claim7.holds Tryd.pinned (.plain (OpenSpec.upto fieldsSymbolsSpec)) fieldsSymbolsUptoCard

/-- THE SECOND FORM's CARD OF 'bellwetherlaw07.FieldsNil'. -/
def fieldsNilUptoCard : Claim7 := { stood := { row := fieldsNilUptoRow, standIns := [], harness := (true, "cef6fe523e3d70fb6d2970806066270746fc6fa1c75a30e0894604f6d9078086"), looks := false }, kinds := [], alts := [], laidByText := true, laidKinds := [.data], laidTests := true, laidLooks := .later }
def FieldsNilUptoCardSaid : Prop := Claim7.holds Tryd.pinned (.plain (OpenSpec.upto fieldsNilSpec)) fieldsNilUptoCard
end Rows
end Go.Proofs.YtnojhgpaplecgaaDoor
