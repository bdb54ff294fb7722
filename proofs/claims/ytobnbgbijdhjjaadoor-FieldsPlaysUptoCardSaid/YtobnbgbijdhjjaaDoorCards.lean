/-
  DERIVED. GIVEN WITH THE SEED: THE CARDS: each row of YtobnbgbijdhjjaaDoorRows.lean that lists a variable, with what it lists TIED to the program's text (the seventh form; the later family's looks); each row that meets fmt, with fmt's text TOLD by the authors' own Lean function (tested against real Go, not proved from fmt's source: count such statements apart). THE CARD IS WHAT COUNTS. Prove the row's statement (the work); the ties are given (YtobnbgbijdhjjaaDoorTie.lean); close each card by the builder's one call (the guide's Derived/Test/ToyasCard.lean, 'card_holds'). Laid BY PROGRAM, IN A SANDBOX (cutbox-door.mjs). By AI agents, Wed Nov 11 2026. No macro, syntax, notation, axiom, sorry.
-/
import Derived.Test.YtobnbgbijdhjjaaDoorRows
import GoSem.ClaimSeven
namespace Go.Proofs.YtobnbgbijdhjjaaDoor
namespace Rows

/-- THE TIED CARD OF 'bellwetherlaw07.FieldsPlays'. -/
def fieldsPlaysCard : Claim7 := { stood := { row := fieldsPlaysRow, standIns := [], harness := (true, "5bb52da14600f71b1a3860526cbaa819fff10eb0c8ab9aedc95be86f9aff6ec3"), looks := false }, kinds := [], alts := [], laidByText := true, laidKinds := [.data], laidTests := true, laidLooks := .later }
def FieldsPlaysCardSaid : Prop := Claim7.holds Tryd.pinned (.plain (OpenSpec.ofChange fieldsPlaysSpec)) fieldsPlaysCard

/-- THE TIED CARD OF 'bellwetherlaw08.OutcomePuts'. -/
def outcomePutsCard : Claim7 := { stood := { row := outcomePutsRow, standIns := [], harness := (true, "5bb52da14600f71b1a3860526cbaa819fff10eb0c8ab9aedc95be86f9aff6ec3"), looks := false }, kinds := [], alts := [], laidByText := true, laidKinds := [.data], laidTests := true, laidLooks := .later }
def OutcomePutsCardSaid : Prop := Claim7.holds Tryd.pinned (.plain (OpenSpec.ofChange outcomePutsSpec)) outcomePutsCard

/-- THE TIED CARD OF 'bellwetherlaw08.OutcomeGets'. -/
def outcomeGetsCard : Claim7 := { stood := { row := outcomeGetsRow, standIns := [], harness := (true, "5bb52da14600f71b1a3860526cbaa819fff10eb0c8ab9aedc95be86f9aff6ec3"), looks := false }, kinds := [], alts := [], laidByText := true, laidKinds := [.data], laidTests := true, laidLooks := .later }
def OutcomeGetsCardSaid : Prop := Claim7.holds Tryd.pinned (.plain (OpenSpec.ofChange outcomeGetsSpec)) outcomeGetsCard

/-- THE TIED CARD OF 'bellwetherlaw08.OutcomeBack'. -/
def outcomeBackCard : Claim7 := { stood := { row := outcomeBackRow, standIns := [], harness := (true, "5bb52da14600f71b1a3860526cbaa819fff10eb0c8ab9aedc95be86f9aff6ec3"), looks := false }, kinds := [], alts := [], laidByText := true, laidKinds := [.data], laidTests := true, laidLooks := .later }
def OutcomeBackCardSaid : Prop := Claim7.holds Tryd.pinned (.plain (OpenSpec.ofChange outcomeBackSpec)) outcomeBackCard

/-- THE TIED CARD OF 'bellwetherlaw08.OutcomeMay'. -/
def outcomeMayCard : Claim7 := { stood := { row := outcomeMayRow, standIns := [], harness := (true, "5bb52da14600f71b1a3860526cbaa819fff10eb0c8ab9aedc95be86f9aff6ec3"), looks := false }, kinds := [], alts := [], laidByText := true, laidKinds := [.data], laidTests := true, laidLooks := .later }
def OutcomeMayCardSaid : Prop := Claim7.holds Tryd.pinned (.plain (OpenSpec.ofChange outcomeMaySpec)) outcomeMayCard

/-- THE TIED CARD OF 'bellwetherlaw08.OutcomeNames'. -/
def outcomeNamesCard : Claim7 := { stood := { row := outcomeNamesRow, standIns := [], harness := (true, "5bb52da14600f71b1a3860526cbaa819fff10eb0c8ab9aedc95be86f9aff6ec3"), looks := false }, kinds := [], alts := [], laidByText := true, laidKinds := [.data], laidTests := true, laidLooks := .later }
def OutcomeNamesCardSaid : Prop := Claim7.holds Tryd.pinned (.plain (OpenSpec.ofChange outcomeNamesSpec)) outcomeNamesCard

/-- THE SECOND FORM's CARD OF 'bellwetherlaw07.FieldsPlays'. -/
def fieldsPlaysUptoCard : Claim7 := { stood := { row := fieldsPlaysUptoRow, standIns := [], harness := (true, "5bb52da14600f71b1a3860526cbaa819fff10eb0c8ab9aedc95be86f9aff6ec3"), looks := false }, kinds := [], alts := [], laidByText := true, laidKinds := [.data], laidTests := true, laidLooks := .later }
def FieldsPlaysUptoCardSaid : Prop := Claim7.holds Tryd.pinned (.plain (OpenSpec.upto fieldsPlaysSpec)) fieldsPlaysUptoCard

/-- THE SECOND FORM's CARD OF 'bellwetherlaw08.OutcomePuts'. -/
def outcomePutsUptoCard : Claim7 := { stood := { row := outcomePutsUptoRow, standIns := [], harness := (true, "5bb52da14600f71b1a3860526cbaa819fff10eb0c8ab9aedc95be86f9aff6ec3"), looks := false }, kinds := [], alts := [], laidByText := true, laidKinds := [.data], laidTests := true, laidLooks := .later }
def OutcomePutsUptoCardSaid : Prop := Claim7.holds Tryd.pinned (.plain (OpenSpec.upto outcomePutsSpec)) outcomePutsUptoCard

/-- THE SECOND FORM's CARD OF 'bellwetherlaw08.OutcomeGets'. -/
def outcomeGetsUptoCard : Claim7 := { stood := { row := outcomeGetsUptoRow, standIns := [], harness := (true, "5bb52da14600f71b1a3860526cbaa819fff10eb0c8ab9aedc95be86f9aff6ec3"), looks := false }, kinds := [], alts := [], laidByText := true, laidKinds := [.data], laidTests := true, laidLooks := .later }
def OutcomeGetsUptoCardSaid : Prop := Claim7.holds Tryd.pinned (.plain (OpenSpec.upto outcomeGetsSpec)) outcomeGetsUptoCard

/-- THE SECOND FORM's CARD OF 'bellwetherlaw08.OutcomeBack'. -/
def outcomeBackUptoCard : Claim7 := { stood := { row := outcomeBackUptoRow, standIns := [], harness := (true, "5bb52da14600f71b1a3860526cbaa819fff10eb0c8ab9aedc95be86f9aff6ec3"), looks := false }, kinds := [], alts := [], laidByText := true, laidKinds := [.data], laidTests := true, laidLooks := .later }
def OutcomeBackUptoCardSaid : Prop := Claim7.holds Tryd.pinned (.plain (OpenSpec.upto outcomeBackSpec)) outcomeBackUptoCard

/-- THE SECOND FORM's CARD OF 'bellwetherlaw08.OutcomeMay'. -/
def outcomeMayUptoCard : Claim7 := { stood := { row := outcomeMayUptoRow, standIns := [], harness := (true, "5bb52da14600f71b1a3860526cbaa819fff10eb0c8ab9aedc95be86f9aff6ec3"), looks := false }, kinds := [], alts := [], laidByText := true, laidKinds := [.data], laidTests := true, laidLooks := .later }
def OutcomeMayUptoCardSaid : Prop := Claim7.holds Tryd.pinned (.plain (OpenSpec.upto outcomeMaySpec)) outcomeMayUptoCard

/-- THE SECOND FORM's CARD OF 'bellwetherlaw08.OutcomeNames'. -/
def outcomeNamesUptoCard : Claim7 := { stood := { row := outcomeNamesUptoRow, standIns := [], harness := (true, "5bb52da14600f71b1a3860526cbaa819fff10eb0c8ab9aedc95be86f9aff6ec3"), looks := false }, kinds := [], alts := [], laidByText := true, laidKinds := [.data], laidTests := true, laidLooks := .later }
def OutcomeNamesUptoCardSaid : Prop := Claim7.holds Tryd.pinned (.plain (OpenSpec.upto outcomeNamesSpec)) outcomeNamesUptoCard
end Rows
end Go.Proofs.YtobnbgbijdhjjaaDoor
