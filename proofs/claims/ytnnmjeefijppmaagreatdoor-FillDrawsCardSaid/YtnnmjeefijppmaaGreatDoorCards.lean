/-
  DERIVED. GIVEN WITH THE SEED: THE CARDS: each row of YtnnmjeefijppmaaGreatDoorRows.lean that lists a variable, with what it lists TIED to the program's text (the seventh form; the later family's looks); each row that meets fmt, with fmt's text TOLD by the authors' own Lean function (tested against real Go, not proved from fmt's source: count such statements apart). THE CARD IS WHAT COUNTS. Prove the row's statement (the work); the ties are given (YtnnmjeefijppmaaGreatDoorTie.lean); close each card by the builder's one call (the guide's Derived/Test/ToyasCard.lean, 'card_holds'). Laid BY PROGRAM, IN A SANDBOX (cutbox-door.mjs). By AI agents, Wed Nov 11 2026. No macro, syntax, notation, axiom, sorry.
-/
import Derived.Test.YtnnmjeefijppmaaGreatDoorRows
import GoSem.ClaimSeven
namespace Go.Proofs.YtnnmjeefijppmaaGreatDoor
namespace Rows

/-- THE TIED CARD OF 'fluxmastlaw08.FillDraws'. -/
def fillDrawsCard : Claim7 := { stood := { row := fillDrawsRow, standIns := [], harness := (true, "0789b6cb7584583bdc8c245955aaa928474681c2de4754d6138abc12b3a0bc22"), looks := false }, kinds := [], alts := [], laidByText := true, laidKinds := [.data, .data, .data], laidTests := true, laidLooks := .later }
def FillDrawsCardSaid : Prop := Claim7.holds Tryz.pinned (.plain (OpenSpec.ofChange fillDrawsSpec)) fillDrawsCard

/-- THE SECOND FORM's CARD OF 'fluxmastlaw08.FillDraws'. -/
def fillDrawsUptoCard : Claim7 := { stood := { row := fillDrawsUptoRow, standIns := [], harness := (true, "0789b6cb7584583bdc8c245955aaa928474681c2de4754d6138abc12b3a0bc22"), looks := false }, kinds := [], alts := [], laidByText := true, laidKinds := [.data, .data, .data], laidTests := true, laidLooks := .later }
def FillDrawsUptoCardSaid : Prop := Claim7.holds Tryz.pinned (.plain (OpenSpec.upto fillDrawsSpec)) fillDrawsUptoCard
end Rows
end Go.Proofs.YtnnmjeefijppmaaGreatDoor
