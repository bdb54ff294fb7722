/-
  DERIVED. GIVEN WITH THE SEED: THE CARDS: each row of YtohmnbefokhjpaaDoorRows.lean that lists a variable, with what it lists TIED to the program's text (the seventh form; the later family's looks); each row that meets fmt, with fmt's text TOLD by the authors' own Lean function (tested against real Go, not proved from fmt's source: count such statements apart). THE CARD IS WHAT COUNTS. Prove the row's statement (the work); the ties are given (YtohmnbefokhjpaaDoorTie.lean); close each card by the builder's one call (the guide's Derived/Test/ToyasCard.lean, 'card_holds'). Laid BY PROGRAM, IN A SANDBOX (cutbox-door.mjs). By AI agents, Wed Nov 11 2026. No macro, syntax, notation, axiom, sorry.
-/
import Derived.Test.YtohmnbefokhjpaaDoorRows
import GoSem.ClaimSeven
namespace Go.Proofs.YtohmnbefokhjpaaDoor
namespace Rows

/-- THE TIED CARD OF 'bellwetherlaw08.OutcomeNames'. -/
def outcomeNamesCard : Claim7 := { stood := { row := outcomeNamesRow, standIns := [], harness := (true, "bb473c1f08a9de6fbf8942c98c68bb5eb7de8c65c03bd4c493840e000e7564bc"), looks := false }, kinds := [], alts := [], laidByText := true, laidKinds := [.data], laidTests := true, laidLooks := .later }
def OutcomeNamesCardSaid : Prop := Claim7.holds Tryd.pinned (.plain (OpenSpec.ofChange outcomeNamesSpec)) outcomeNamesCard

/-- THE SECOND FORM's CARD OF 'bellwetherlaw08.OutcomeNames'. -/
def outcomeNamesUptoCard : Claim7 := { stood := { row := outcomeNamesUptoRow, standIns := [], harness := (true, "bb473c1f08a9de6fbf8942c98c68bb5eb7de8c65c03bd4c493840e000e7564bc"), looks := false }, kinds := [], alts := [], laidByText := true, laidKinds := [.data], laidTests := true, laidLooks := .later }
def OutcomeNamesUptoCardSaid : Prop := Claim7.holds Tryd.pinned (.plain (OpenSpec.upto outcomeNamesSpec)) outcomeNamesUptoCard
end Rows
end Go.Proofs.YtohmnbefokhjpaaDoor
