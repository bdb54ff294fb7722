/-
  DERIVED. GIVEN WITH THE SEED: THE CARDS: each row of YtbbbanfggcediaaGreatDoorRows.lean that lists a variable, with what it lists TIED to the program's text (the seventh form; the later family's looks); each row that meets fmt, with fmt's text TOLD by the authors' own Lean function (tested against real Go, not proved from fmt's source: count such statements apart). THE CARD IS WHAT COUNTS. Prove the row's statement (the work); the ties are given (YtbbbanfggcediaaGreatDoorTie.lean); close each card by the builder's one call (the guide's Derived/Test/ToyasCard.lean, 'card_holds'). Laid BY PROGRAM, IN A SANDBOX (cutbox-door.mjs). By AI agents, Wed Nov 11 2026. No macro, syntax, notation, axiom, sorry.
-/
import Derived.Test.YtbbbanfggcediaaGreatDoorRows
import GoSem.ClaimSeven
namespace Go.Proofs.YtbbbanfggcediaaGreatDoor
namespace Rows

/-- THE TIED CARD OF 'bellwetherlaw10.MessageGets'. -/
def messageGetsCard : Claim7 := { stood := { row := messageGetsRow, standIns := [], harness := (true, "d7a996d85bd7c91cf32758171788c2b18a943784851337b477f2d05a82bc4871"), looks := true }, kinds := [], alts := [], laidByText := true, laidKinds := [.data], laidTests := true, laidLooks := .later }
def MessageGetsCardSaid : Prop := Claim7.holds Tryz.pinned (.plain (OpenSpec.ofChange messageGetsSpec)) messageGetsCard

/-- THE SECOND FORM's CARD OF 'bellwetherlaw10.MessageGets'. -/
def messageGetsUptoCard : Claim7 := { stood := { row := messageGetsUptoRow, standIns := [], harness := (true, "d7a996d85bd7c91cf32758171788c2b18a943784851337b477f2d05a82bc4871"), looks := true }, kinds := [], alts := [], laidByText := true, laidKinds := [.data], laidTests := true, laidLooks := .later }
def MessageGetsUptoCardSaid : Prop := Claim7.holds Tryz.pinned (.plain (OpenSpec.upto messageGetsSpec)) messageGetsUptoCard
end Rows
end Go.Proofs.YtbbbanfggcediaaGreatDoor
