/-
  DERIVED. GIVEN WITH THE SEED: THE CARDS: each row of YtafckcmieepmaaaGreatDoorRows.lean that lists a variable, with what it lists TIED to the program's text (the seventh form; the later family's looks); each row that meets fmt, with fmt's text TOLD by the authors' own Lean function (tested against real Go, not proved from fmt's source: count such statements apart). THE CARD IS WHAT COUNTS. Prove the row's statement (the work); the ties are given (YtafckcmieepmaaaGreatDoorTie.lean); close each card by the builder's one call (the guide's Derived/Test/ToyasCard.lean, 'card_holds'). Laid BY PROGRAM, IN A SANDBOX (cutbox-door.mjs). By AI agents, Wed Nov 11 2026. No macro, syntax, notation, axiom, sorry.
-/
import Derived.Test.YtafckcmieepmaaaGreatDoorRows
import GoSem.ClaimSeven
namespace Go.Proofs.YtafckcmieepmaaaGreatDoor
namespace Rows

/-- THE TIED CARD OF 'fluxmastlaw05.EddyGrades'. -/
def eddyGradesCard : Claim7 := { stood := { row := eddyGradesRow, standIns := [], harness := (true, "a0646791580c2c4d3dd93580512dfdeaea590b29dc3efa6e9695c69b1d157b99"), looks := false }, kinds := [], alts := [], laidByText := true, laidKinds := [.data, .data, .data], laidTests := true, laidLooks := .later }
def EddyGradesCardSaid : Prop := Claim7.holds Tryz.pinned (.plain (OpenSpec.ofChange eddyGradesSpec)) eddyGradesCard

/-- THE SECOND FORM's CARD OF 'fluxmastlaw05.EddyGrades'. -/
def eddyGradesUptoCard : Claim7 := { stood := { row := eddyGradesUptoRow, standIns := [], harness := (true, "a0646791580c2c4d3dd93580512dfdeaea590b29dc3efa6e9695c69b1d157b99"), looks := false }, kinds := [], alts := [], laidByText := true, laidKinds := [.data, .data, .data], laidTests := true, laidLooks := .later }
def EddyGradesUptoCardSaid : Prop := Claim7.holds Tryz.pinned (.plain (OpenSpec.upto eddyGradesSpec)) eddyGradesUptoCard
end Rows
end Go.Proofs.YtafckcmieepmaaaGreatDoor
