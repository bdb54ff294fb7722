/-
  DERIVED. GIVEN WITH THE SEED: THE CARDS: each row of YtobnbgbijdhjjaaGreatDoorRows.lean that lists a variable, with what it lists TIED to the program's text (the seventh form; the later family's looks); each row that meets fmt, with fmt's text TOLD by the authors' own Lean function (tested against real Go, not proved from fmt's source: count such statements apart). THE CARD IS WHAT COUNTS. Prove the row's statement (the work); the ties are given (YtobnbgbijdhjjaaGreatDoorTie.lean); close each card by the builder's one call (the guide's Derived/Test/ToyasCard.lean, 'card_holds'). Laid BY PROGRAM, IN A SANDBOX (cutbox-door.mjs). By AI agents, Wed Nov 11 2026. No macro, syntax, notation, axiom, sorry.
-/
import Derived.Test.YtobnbgbijdhjjaaGreatDoorRows
import GoSem.ClaimSeven
namespace Go.Proofs.YtobnbgbijdhjjaaGreatDoor
namespace Rows

/-- THE TIED CARD OF 'bellwetherlaw08.OutcomeConds'. -/
def outcomeCondsCard : Claim7 := { stood := { row := outcomeCondsRow, standIns := [], harness := (true, "a117148d33e44fef6b803adadf7a303601a40165514525f258a66aa55a2ec0fc"), looks := false }, kinds := [], alts := [], laidByText := true, laidKinds := [.data], laidTests := true, laidLooks := .later }
def OutcomeCondsCardSaid : Prop := Claim7.holds Tryz.pinned (.plain (OpenSpec.ofChange outcomeCondsSpec)) outcomeCondsCard

/-- THE SECOND FORM's CARD OF 'bellwetherlaw08.OutcomeConds'. -/
def outcomeCondsUptoCard : Claim7 := { stood := { row := outcomeCondsUptoRow, standIns := [], harness := (true, "a117148d33e44fef6b803adadf7a303601a40165514525f258a66aa55a2ec0fc"), looks := false }, kinds := [], alts := [], laidByText := true, laidKinds := [.data], laidTests := true, laidLooks := .later }
def OutcomeCondsUptoCardSaid : Prop := Claim7.holds Tryz.pinned (.plain (OpenSpec.upto outcomeCondsSpec)) outcomeCondsUptoCard
end Rows
end Go.Proofs.YtobnbgbijdhjjaaGreatDoor
