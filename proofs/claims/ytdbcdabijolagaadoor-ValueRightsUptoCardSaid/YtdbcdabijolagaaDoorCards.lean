/-
  DERIVED. GIVEN WITH THE SEED: THE CARDS: each row of YtdbcdabijolagaaDoorRows.lean that lists a variable, with what it lists TIED to the program's text (the seventh form; the later family's looks); each row that meets fmt, with fmt's text TOLD by the authors' own Lean function (tested against real Go, not proved from fmt's source: count such statements apart). THE CARD IS WHAT COUNTS. Prove the row's statement (the work); the ties are given (YtdbcdabijolagaaDoorTie.lean); close each card by the builder's one call (the guide's Derived/Test/ToyasCard.lean, 'card_holds'). Laid BY PROGRAM, IN A SANDBOX (cutbox-door.mjs). By AI agents, Wed Nov 11 2026. No macro, syntax, notation, axiom, sorry.
-/
import Derived.Test.YtdbcdabijolagaaDoorRows
import GoSem.ClaimSeven
namespace Go.Proofs.YtdbcdabijolagaaDoor
namespace Rows

/-- THE TIED CARD OF 'bellwetherlaw04.ValueRights'. -/
def valueRightsCard : Claim7 := { stood := { row := valueRightsRow, standIns := [], harness := (true, "fc3b95b1073527260be13c50d065d477c4b4ee42e32b555c973e363c7d4d867d"), looks := false }, kinds := [], alts := [], laidByText := true, laidKinds := [.data], laidTests := true, laidLooks := .later }
def ValueRightsCardSaid : Prop := Claim7.holds Tryd.pinned (.plain (OpenSpec.ofChange valueRightsSpec)) valueRightsCard

/-- THE TIED CARD OF 'bellwetherlaw04.ValueMakes'. -/
def valueMakesCard : Claim7 := { stood := { row := valueMakesRow, standIns := [], harness := (true, "fc3b95b1073527260be13c50d065d477c4b4ee42e32b555c973e363c7d4d867d"), looks := false }, kinds := [], alts := [], laidByText := true, laidKinds := [.data], laidTests := true, laidLooks := .later }
def ValueMakesCardSaid : Prop := Claim7.holds Tryd.pinned (.plain (OpenSpec.ofChange valueMakesSpec)) valueMakesCard

/-- THE TIED CARD OF 'bellwetherlaw04.ValueSames'. -/
def valueSamesCard : Claim7 := { stood := { row := valueSamesRow, standIns := [], harness := (true, "fc3b95b1073527260be13c50d065d477c4b4ee42e32b555c973e363c7d4d867d"), looks := false }, kinds := [], alts := [], laidByText := true, laidKinds := [.data], laidTests := true, laidLooks := .later }
def ValueSamesCardSaid : Prop := Claim7.holds Tryd.pinned (.plain (OpenSpec.ofChange valueSamesSpec)) valueSamesCard

/-- THE TIED CARD OF 'bellwetherlaw04.ValueGets'. -/
def valueGetsCard : Claim7 := { stood := { row := valueGetsRow, standIns := [], harness := (true, "fc3b95b1073527260be13c50d065d477c4b4ee42e32b555c973e363c7d4d867d"), looks := false }, kinds := [], alts := [], laidByText := true, laidKinds := [.data], laidTests := true, laidLooks := .later }
def ValueGetsCardSaid : Prop := Claim7.holds Tryd.pinned (.plain (OpenSpec.ofChange valueGetsSpec)) valueGetsCard

/-- THE TIED CARD OF 'bellwetherlaw04.ValueKids'. -/
def valueKidsCard : Claim7 := { stood := { row := valueKidsRow, standIns := [], harness := (true, "fc3b95b1073527260be13c50d065d477c4b4ee42e32b555c973e363c7d4d867d"), looks := false }, kinds := [], alts := [], laidByText := true, laidKinds := [.data], laidTests := true, laidLooks := .later }
def ValueKidsCardSaid : Prop := Claim7.holds Tryd.pinned (.plain (OpenSpec.ofChange valueKidsSpec)) valueKidsCard

/-- THE TIED CARD OF 'bellwetherlaw04.ValueRanges'. -/
def valueRangesCard : Claim7 := { stood := { row := valueRangesRow, standIns := [], harness := (true, "fc3b95b1073527260be13c50d065d477c4b4ee42e32b555c973e363c7d4d867d"), looks := false }, kinds := [], alts := [], laidByText := true, laidKinds := [.data], laidTests := true, laidLooks := .later }
def ValueRangesCardSaid : Prop := Claim7.holds Tryd.pinned (.plain (OpenSpec.ofChange valueRangesSpec)) valueRangesCard

/-- THE TIED CARD OF 'bellwetherlaw04.ValueAlike'. -/
def valueAlikeCard : Claim7 := { stood := { row := valueAlikeRow, standIns := [], harness := (true, "fc3b95b1073527260be13c50d065d477c4b4ee42e32b555c973e363c7d4d867d"), looks := false }, kinds := [], alts := [], laidByText := true, laidKinds := [.data], laidTests := true, laidLooks := .later }
def ValueAlikeCardSaid : Prop := Claim7.holds Tryd.pinned (.plain (OpenSpec.ofChange valueAlikeSpec)) valueAlikeCard

/-- THE SECOND FORM's CARD OF 'bellwetherlaw04.ValueRights'. -/
def valueRightsUptoCard : Claim7 := { stood := { row := valueRightsUptoRow, standIns := [], harness := (true, "fc3b95b1073527260be13c50d065d477c4b4ee42e32b555c973e363c7d4d867d"), looks := false }, kinds := [], alts := [], laidByText := true, laidKinds := [.data], laidTests := true, laidLooks := .later }
def ValueRightsUptoCardSaid : Prop := Claim7.holds Tryd.pinned (.plain (OpenSpec.upto valueRightsSpec)) valueRightsUptoCard

/-- THE SECOND FORM's CARD OF 'bellwetherlaw04.ValueMakes'. -/
def valueMakesUptoCard : Claim7 := { stood := { row := valueMakesUptoRow, standIns := [], harness := (true, "fc3b95b1073527260be13c50d065d477c4b4ee42e32b555c973e363c7d4d867d"), looks := false }, kinds := [], alts := [], laidByText := true, laidKinds := [.data], laidTests := true, laidLooks := .later }
def ValueMakesUptoCardSaid : Prop := Claim7.holds Tryd.pinned (.plain (OpenSpec.upto valueMakesSpec)) valueMakesUptoCard

/-- THE SECOND FORM's CARD OF 'bellwetherlaw04.ValueSames'. -/
def valueSamesUptoCard : Claim7 := { stood := { row := valueSamesUptoRow, standIns := [], harness := (true, "fc3b95b1073527260be13c50d065d477c4b4ee42e32b555c973e363c7d4d867d"), looks := false }, kinds := [], alts := [], laidByText := true, laidKinds := [.data], laidTests := true, laidLooks := .later }
def ValueSamesUptoCardSaid : Prop := Claim7.holds Tryd.pinned (.plain (OpenSpec.upto valueSamesSpec)) valueSamesUptoCard

/-- THE SECOND FORM's CARD OF 'bellwetherlaw04.ValueGets'. -/
def valueGetsUptoCard : Claim7 := { stood := { row := valueGetsUptoRow, standIns := [], harness := (true, "fc3b95b1073527260be13c50d065d477c4b4ee42e32b555c973e363c7d4d867d"), looks := false }, kinds := [], alts := [], laidByText := true, laidKinds := [.data], laidTests := true, laidLooks := .later }
def ValueGetsUptoCardSaid : Prop := Claim7.holds Tryd.pinned (.plain (OpenSpec.upto valueGetsSpec)) valueGetsUptoCard

/-- THE SECOND FORM's CARD OF 'bellwetherlaw04.ValueKids'. -/
def valueKidsUptoCard : Claim7 := { stood := { row := valueKidsUptoRow, standIns := [], harness := (true, "fc3b95b1073527260be13c50d065d477c4b4ee42e32b555c973e363c7d4d867d"), looks := false }, kinds := [], alts := [], laidByText := true, laidKinds := [.data], laidTests := true, laidLooks := .later }
def ValueKidsUptoCardSaid : Prop := Claim7.holds Tryd.pinned (.plain (OpenSpec.upto valueKidsSpec)) valueKidsUptoCard

/-- THE SECOND FORM's CARD OF 'bellwetherlaw04.ValueRanges'. -/
def valueRangesUptoCard : Claim7 := { stood := { row := valueRangesUptoRow, standIns := [], harness := (true, "fc3b95b1073527260be13c50d065d477c4b4ee42e32b555c973e363c7d4d867d"), looks := false }, kinds := [], alts := [], laidByText := true, laidKinds := [.data], laidTests := true, laidLooks := .later }
def ValueRangesUptoCardSaid : Prop := Claim7.holds Tryd.pinned (.plain (OpenSpec.upto valueRangesSpec)) valueRangesUptoCard

/-- THE SECOND FORM's CARD OF 'bellwetherlaw04.ValueAlike'. -/
def valueAlikeUptoCard : Claim7 := { stood := { row := valueAlikeUptoRow, standIns := [], harness := (true, "fc3b95b1073527260be13c50d065d477c4b4ee42e32b555c973e363c7d4d867d"), looks := false }, kinds := [], alts := [], laidByText := true, laidKinds := [.data], laidTests := true, laidLooks := .later }
def ValueAlikeUptoCardSaid : Prop := Claim7.holds Tryd.pinned (.plain (OpenSpec.upto valueAlikeSpec)) valueAlikeUptoCard
end Rows
end Go.Proofs.YtdbcdabijolagaaDoor
