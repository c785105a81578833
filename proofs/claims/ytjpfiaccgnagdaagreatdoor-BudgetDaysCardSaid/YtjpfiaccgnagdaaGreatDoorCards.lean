/-
  DERIVED. GIVEN WITH THE SEED: THE CARDS: each row of YtjpfiaccgnagdaaGreatDoorRows.lean that lists a variable, with what it lists TIED to the program's text (the seventh form; the later family's looks); each row that meets fmt, with fmt's text TOLD by the authors' own Lean function (tested against real Go, not proved from fmt's source: count such statements apart). THE CARD IS WHAT COUNTS. Prove the row's statement (the work); the ties are given (YtjpfiaccgnagdaaGreatDoorTie.lean); close each card by the builder's one call (the guide's Derived/Test/ToyasCard.lean, 'card_holds'). Laid BY PROGRAM, IN A SANDBOX (cutbox-door.mjs). By AI agents, Wed Nov 11 2026. No macro, syntax, notation, axiom, sorry.
-/
import Derived.Test.YtjpfiaccgnagdaaGreatDoorRows
import GoSem.ClaimSeven
namespace Go.Proofs.YtjpfiaccgnagdaaGreatDoor
namespace Rows

/-- THE TIED CARD OF 'fluxmastlaw08.FillDraws'. -/
def fillDrawsCard : Claim7 := { stood := { row := fillDrawsRow, standIns := [], harness := (true, "a8be460c51ddb9fbb71d5bdd28a9dad1bc28e91c1a8c0caeda706671bcef754c"), looks := false }, kinds := [], alts := [], laidByText := true, laidKinds := [.data, .data, .data], laidTests := true, laidLooks := .later }
def FillDrawsCardSaid : Prop := Claim7.holds Tryz.pinned (.plain (OpenSpec.ofChange fillDrawsSpec)) fillDrawsCard

/-- THE TIED CARD OF 'fluxmastlaw09.BudgetSoils'. -/
def budgetSoilsCard : Claim7 := { stood := { row := budgetSoilsRow, standIns := [], harness := (true, "a8be460c51ddb9fbb71d5bdd28a9dad1bc28e91c1a8c0caeda706671bcef754c"), looks := false }, kinds := [], alts := [], laidByText := true, laidKinds := [.data, .data, .data], laidTests := true, laidLooks := .later }
def BudgetSoilsCardSaid : Prop := Claim7.holds Tryz.pinned (.plain (OpenSpec.ofChange budgetSoilsSpec)) budgetSoilsCard

/-- THE TIED CARD OF 'fluxmastlaw09.BudgetDays'. -/
def budgetDaysCard : Claim7 := { stood := { row := budgetDaysRow, standIns := [], harness := (true, "a8be460c51ddb9fbb71d5bdd28a9dad1bc28e91c1a8c0caeda706671bcef754c"), looks := false }, kinds := [], alts := [], laidByText := true, laidKinds := [.data, .data, .data], laidTests := true, laidLooks := .later }
def BudgetDaysCardSaid : Prop := Claim7.holds Tryz.pinned (.plain (OpenSpec.ofChange budgetDaysSpec)) budgetDaysCard

/-- THE TIED CARD OF 'fluxmasttop.TopSoil'. -/
def topSoilCard : Claim7 := { stood := { row := topSoilRow, standIns := [], harness := (true, "a8be460c51ddb9fbb71d5bdd28a9dad1bc28e91c1a8c0caeda706671bcef754c"), looks := false }, kinds := [], alts := [], laidByText := true, laidKinds := [.data, .data, .data], laidTests := true, laidLooks := .later }
def TopSoilCardSaid : Prop := Claim7.holds Tryz.pinned (.plain (OpenSpec.ofChange topSoilSpec)) topSoilCard

/-- THE SECOND FORM's CARD OF 'fluxmastlaw08.FillDraws'. -/
def fillDrawsUptoCard : Claim7 := { stood := { row := fillDrawsUptoRow, standIns := [], harness := (true, "a8be460c51ddb9fbb71d5bdd28a9dad1bc28e91c1a8c0caeda706671bcef754c"), looks := false }, kinds := [], alts := [], laidByText := true, laidKinds := [.data, .data, .data], laidTests := true, laidLooks := .later }
def FillDrawsUptoCardSaid : Prop := Claim7.holds Tryz.pinned (.plain (OpenSpec.upto fillDrawsSpec)) fillDrawsUptoCard

/-- THE SECOND FORM's CARD OF 'fluxmastlaw09.BudgetSoils'. -/
def budgetSoilsUptoCard : Claim7 := { stood := { row := budgetSoilsUptoRow, standIns := [], harness := (true, "a8be460c51ddb9fbb71d5bdd28a9dad1bc28e91c1a8c0caeda706671bcef754c"), looks := false }, kinds := [], alts := [], laidByText := true, laidKinds := [.data, .data, .data], laidTests := true, laidLooks := .later }
def BudgetSoilsUptoCardSaid : Prop := Claim7.holds Tryz.pinned (.plain (OpenSpec.upto budgetSoilsSpec)) budgetSoilsUptoCard

/-- THE SECOND FORM's CARD OF 'fluxmastlaw09.BudgetDays'. -/
def budgetDaysUptoCard : Claim7 := { stood := { row := budgetDaysUptoRow, standIns := [], harness := (true, "a8be460c51ddb9fbb71d5bdd28a9dad1bc28e91c1a8c0caeda706671bcef754c"), looks := false }, kinds := [], alts := [], laidByText := true, laidKinds := [.data, .data, .data], laidTests := true, laidLooks := .later }
def BudgetDaysUptoCardSaid : Prop := Claim7.holds Tryz.pinned (.plain (OpenSpec.upto budgetDaysSpec)) budgetDaysUptoCard

/-- THE SECOND FORM's CARD OF 'fluxmasttop.TopSoil'. -/
def topSoilUptoCard : Claim7 := { stood := { row := topSoilUptoRow, standIns := [], harness := (true, "a8be460c51ddb9fbb71d5bdd28a9dad1bc28e91c1a8c0caeda706671bcef754c"), looks := false }, kinds := [], alts := [], laidByText := true, laidKinds := [.data, .data, .data], laidTests := true, laidLooks := .later }
def TopSoilUptoCardSaid : Prop := Claim7.holds Tryz.pinned (.plain (OpenSpec.upto topSoilSpec)) topSoilUptoCard
end Rows
end Go.Proofs.YtjpfiaccgnagdaaGreatDoor
