/-
  DERIVED. GIVEN WITH THE SEED: THE CARDS: each row of YtlncagdekfjinaaGreatDoorRows.lean that lists a variable, with what it lists TIED to the program's text (the seventh form; the later family's looks); each row that meets fmt, with fmt's text TOLD by the authors' own Lean function (tested against real Go, not proved from fmt's source: count such statements apart). THE CARD IS WHAT COUNTS. Prove the row's statement (the work); the ties are given (YtlncagdekfjinaaGreatDoorTie.lean); close each card by the builder's one call (the guide's Derived/Test/ToyasCard.lean, 'card_holds'). Laid BY PROGRAM, IN A SANDBOX (cutbox-door.mjs). By AI agents, Wed Nov 11 2026. No macro, syntax, notation, axiom, sorry.
-/
import Derived.Test.YtlncagdekfjinaaGreatDoorRows
import GoSem.ClaimSeven
namespace Go.Proofs.YtlncagdekfjinaaGreatDoor
namespace Rows

/-- THE TIED CARD OF 'fluxmastlaw09.BudgetRings'. -/
def budgetRingsCard : Claim7 := { stood := { row := budgetRingsRow, standIns := [], harness := (true, "c4741a7a74a0ce953386e6aba7e576fbe8ed960a97f0acc0e4c4c75c0a409ec2"), looks := false }, kinds := [], alts := [], laidByText := true, laidKinds := [.data, .data, .data], laidTests := true, laidLooks := .later }
def BudgetRingsCardSaid : Prop := Claim7.holds Tryz.pinned (.plain (OpenSpec.ofChange budgetRingsSpec)) budgetRingsCard

/-- THE TIED CARD OF 'fluxmastlaw09.BudgetTurns'. -/
def budgetTurnsCard : Claim7 := { stood := { row := budgetTurnsRow, standIns := [], harness := (true, "c4741a7a74a0ce953386e6aba7e576fbe8ed960a97f0acc0e4c4c75c0a409ec2"), looks := false }, kinds := [], alts := [], laidByText := true, laidKinds := [.data, .data, .data], laidTests := true, laidLooks := .later }
def BudgetTurnsCardSaid : Prop := Claim7.holds Tryz.pinned (.plain (OpenSpec.ofChange budgetTurnsSpec)) budgetTurnsCard

/-- THE TIED CARD OF 'fluxmastlaw09.BudgetTwice'. -/
def budgetTwiceCard : Claim7 := { stood := { row := budgetTwiceRow, standIns := [], harness := (true, "c4741a7a74a0ce953386e6aba7e576fbe8ed960a97f0acc0e4c4c75c0a409ec2"), looks := false }, kinds := [], alts := [], laidByText := true, laidKinds := [.data, .data, .data], laidTests := true, laidLooks := .later }
def BudgetTwiceCardSaid : Prop := Claim7.holds Tryz.pinned (.plain (OpenSpec.ofChange budgetTwiceSpec)) budgetTwiceCard

/-- THE TIED CARD OF 'fluxmastlaw09.BudgetGases'. -/
def budgetGasesCard : Claim7 := { stood := { row := budgetGasesRow, standIns := [], harness := (true, "c4741a7a74a0ce953386e6aba7e576fbe8ed960a97f0acc0e4c4c75c0a409ec2"), looks := false }, kinds := [], alts := [], laidByText := true, laidKinds := [.data, .data, .data], laidTests := true, laidLooks := .later }
def BudgetGasesCardSaid : Prop := Claim7.holds Tryz.pinned (.plain (OpenSpec.ofChange budgetGasesSpec)) budgetGasesCard

/-- THE TIED CARD OF 'fluxmastlaw09.BudgetWinters'. -/
def budgetWintersCard : Claim7 := { stood := { row := budgetWintersRow, standIns := [], harness := (true, "c4741a7a74a0ce953386e6aba7e576fbe8ed960a97f0acc0e4c4c75c0a409ec2"), looks := false }, kinds := [], alts := [], laidByText := true, laidKinds := [.data, .data, .data], laidTests := true, laidLooks := .later }
def BudgetWintersCardSaid : Prop := Claim7.holds Tryz.pinned (.plain (OpenSpec.ofChange budgetWintersSpec)) budgetWintersCard

/-- THE TIED CARD OF 'fluxmastlaw09.BudgetCarbons'. -/
def budgetCarbonsCard : Claim7 := { stood := { row := budgetCarbonsRow, standIns := [], harness := (true, "c4741a7a74a0ce953386e6aba7e576fbe8ed960a97f0acc0e4c4c75c0a409ec2"), looks := false }, kinds := [], alts := [], laidByText := true, laidKinds := [.data, .data, .data], laidTests := true, laidLooks := .later }
def BudgetCarbonsCardSaid : Prop := Claim7.holds Tryz.pinned (.plain (OpenSpec.ofChange budgetCarbonsSpec)) budgetCarbonsCard

/-- THE TIED CARD OF 'fluxmastlaw09.BudgetBooks'. -/
def budgetBooksCard : Claim7 := { stood := { row := budgetBooksRow, standIns := [], harness := (true, "c4741a7a74a0ce953386e6aba7e576fbe8ed960a97f0acc0e4c4c75c0a409ec2"), looks := false }, kinds := [], alts := [], laidByText := true, laidKinds := [.data, .data, .data], laidTests := true, laidLooks := .later }
def BudgetBooksCardSaid : Prop := Claim7.holds Tryz.pinned (.plain (OpenSpec.ofChange budgetBooksSpec)) budgetBooksCard

/-- THE TIED CARD OF 'fluxmastlaw09.BudgetPowers'. -/
def budgetPowersCard : Claim7 := { stood := { row := budgetPowersRow, standIns := [], harness := (true, "c4741a7a74a0ce953386e6aba7e576fbe8ed960a97f0acc0e4c4c75c0a409ec2"), looks := false }, kinds := [], alts := [], laidByText := true, laidKinds := [.data, .data, .data], laidTests := true, laidLooks := .later }
def BudgetPowersCardSaid : Prop := Claim7.holds Tryz.pinned (.plain (OpenSpec.ofChange budgetPowersSpec)) budgetPowersCard

/-- THE TIED CARD OF 'fluxmastlaw09.BudgetSoils'. -/
def budgetSoilsCard : Claim7 := { stood := { row := budgetSoilsRow, standIns := [], harness := (true, "c4741a7a74a0ce953386e6aba7e576fbe8ed960a97f0acc0e4c4c75c0a409ec2"), looks := false }, kinds := [], alts := [], laidByText := true, laidKinds := [.data, .data, .data], laidTests := true, laidLooks := .later }
def BudgetSoilsCardSaid : Prop := Claim7.holds Tryz.pinned (.plain (OpenSpec.ofChange budgetSoilsSpec)) budgetSoilsCard

/-- THE TIED CARD OF 'fluxmastlaw09.BudgetCloses'. -/
def budgetClosesCard : Claim7 := { stood := { row := budgetClosesRow, standIns := [], harness := (true, "c4741a7a74a0ce953386e6aba7e576fbe8ed960a97f0acc0e4c4c75c0a409ec2"), looks := false }, kinds := [], alts := [], laidByText := true, laidKinds := [.data, .data, .data], laidTests := true, laidLooks := .later }
def BudgetClosesCardSaid : Prop := Claim7.holds Tryz.pinned (.plain (OpenSpec.ofChange budgetClosesSpec)) budgetClosesCard

/-- THE SECOND FORM's CARD OF 'fluxmastlaw09.BudgetRings'. -/
def budgetRingsUptoCard : Claim7 := { stood := { row := budgetRingsUptoRow, standIns := [], harness := (true, "c4741a7a74a0ce953386e6aba7e576fbe8ed960a97f0acc0e4c4c75c0a409ec2"), looks := false }, kinds := [], alts := [], laidByText := true, laidKinds := [.data, .data, .data], laidTests := true, laidLooks := .later }
def BudgetRingsUptoCardSaid : Prop := Claim7.holds Tryz.pinned (.plain (OpenSpec.upto budgetRingsSpec)) budgetRingsUptoCard

/-- THE SECOND FORM's CARD OF 'fluxmastlaw09.BudgetTurns'. -/
def budgetTurnsUptoCard : Claim7 := { stood := { row := budgetTurnsUptoRow, standIns := [], harness := (true, "c4741a7a74a0ce953386e6aba7e576fbe8ed960a97f0acc0e4c4c75c0a409ec2"), looks := false }, kinds := [], alts := [], laidByText := true, laidKinds := [.data, .data, .data], laidTests := true, laidLooks := .later }
def BudgetTurnsUptoCardSaid : Prop := Claim7.holds Tryz.pinned (.plain (OpenSpec.upto budgetTurnsSpec)) budgetTurnsUptoCard

/-- THE SECOND FORM's CARD OF 'fluxmastlaw09.BudgetTwice'. -/
def budgetTwiceUptoCard : Claim7 := { stood := { row := budgetTwiceUptoRow, standIns := [], harness := (true, "c4741a7a74a0ce953386e6aba7e576fbe8ed960a97f0acc0e4c4c75c0a409ec2"), looks := false }, kinds := [], alts := [], laidByText := true, laidKinds := [.data, .data, .data], laidTests := true, laidLooks := .later }
def BudgetTwiceUptoCardSaid : Prop := Claim7.holds Tryz.pinned (.plain (OpenSpec.upto budgetTwiceSpec)) budgetTwiceUptoCard

/-- THE SECOND FORM's CARD OF 'fluxmastlaw09.BudgetGases'. -/
def budgetGasesUptoCard : Claim7 := { stood := { row := budgetGasesUptoRow, standIns := [], harness := (true, "c4741a7a74a0ce953386e6aba7e576fbe8ed960a97f0acc0e4c4c75c0a409ec2"), looks := false }, kinds := [], alts := [], laidByText := true, laidKinds := [.data, .data, .data], laidTests := true, laidLooks := .later }
def BudgetGasesUptoCardSaid : Prop := Claim7.holds Tryz.pinned (.plain (OpenSpec.upto budgetGasesSpec)) budgetGasesUptoCard

/-- THE SECOND FORM's CARD OF 'fluxmastlaw09.BudgetWinters'. -/
def budgetWintersUptoCard : Claim7 := { stood := { row := budgetWintersUptoRow, standIns := [], harness := (true, "c4741a7a74a0ce953386e6aba7e576fbe8ed960a97f0acc0e4c4c75c0a409ec2"), looks := false }, kinds := [], alts := [], laidByText := true, laidKinds := [.data, .data, .data], laidTests := true, laidLooks := .later }
def BudgetWintersUptoCardSaid : Prop := Claim7.holds Tryz.pinned (.plain (OpenSpec.upto budgetWintersSpec)) budgetWintersUptoCard

/-- THE SECOND FORM's CARD OF 'fluxmastlaw09.BudgetCarbons'. -/
def budgetCarbonsUptoCard : Claim7 := { stood := { row := budgetCarbonsUptoRow, standIns := [], harness := (true, "c4741a7a74a0ce953386e6aba7e576fbe8ed960a97f0acc0e4c4c75c0a409ec2"), looks := false }, kinds := [], alts := [], laidByText := true, laidKinds := [.data, .data, .data], laidTests := true, laidLooks := .later }
def BudgetCarbonsUptoCardSaid : Prop := Claim7.holds Tryz.pinned (.plain (OpenSpec.upto budgetCarbonsSpec)) budgetCarbonsUptoCard

/-- THE SECOND FORM's CARD OF 'fluxmastlaw09.BudgetBooks'. -/
def budgetBooksUptoCard : Claim7 := { stood := { row := budgetBooksUptoRow, standIns := [], harness := (true, "c4741a7a74a0ce953386e6aba7e576fbe8ed960a97f0acc0e4c4c75c0a409ec2"), looks := false }, kinds := [], alts := [], laidByText := true, laidKinds := [.data, .data, .data], laidTests := true, laidLooks := .later }
def BudgetBooksUptoCardSaid : Prop := Claim7.holds Tryz.pinned (.plain (OpenSpec.upto budgetBooksSpec)) budgetBooksUptoCard

/-- THE SECOND FORM's CARD OF 'fluxmastlaw09.BudgetPowers'. -/
def budgetPowersUptoCard : Claim7 := { stood := { row := budgetPowersUptoRow, standIns := [], harness := (true, "c4741a7a74a0ce953386e6aba7e576fbe8ed960a97f0acc0e4c4c75c0a409ec2"), looks := false }, kinds := [], alts := [], laidByText := true, laidKinds := [.data, .data, .data], laidTests := true, laidLooks := .later }
def BudgetPowersUptoCardSaid : Prop := Claim7.holds Tryz.pinned (.plain (OpenSpec.upto budgetPowersSpec)) budgetPowersUptoCard

/-- THE SECOND FORM's CARD OF 'fluxmastlaw09.BudgetSoils'. -/
def budgetSoilsUptoCard : Claim7 := { stood := { row := budgetSoilsUptoRow, standIns := [], harness := (true, "c4741a7a74a0ce953386e6aba7e576fbe8ed960a97f0acc0e4c4c75c0a409ec2"), looks := false }, kinds := [], alts := [], laidByText := true, laidKinds := [.data, .data, .data], laidTests := true, laidLooks := .later }
def BudgetSoilsUptoCardSaid : Prop := Claim7.holds Tryz.pinned (.plain (OpenSpec.upto budgetSoilsSpec)) budgetSoilsUptoCard

/-- THE SECOND FORM's CARD OF 'fluxmastlaw09.BudgetCloses'. -/
def budgetClosesUptoCard : Claim7 := { stood := { row := budgetClosesUptoRow, standIns := [], harness := (true, "c4741a7a74a0ce953386e6aba7e576fbe8ed960a97f0acc0e4c4c75c0a409ec2"), looks := false }, kinds := [], alts := [], laidByText := true, laidKinds := [.data, .data, .data], laidTests := true, laidLooks := .later }
def BudgetClosesUptoCardSaid : Prop := Claim7.holds Tryz.pinned (.plain (OpenSpec.upto budgetClosesSpec)) budgetClosesUptoCard
end Rows
end Go.Proofs.YtlncagdekfjinaaGreatDoor
