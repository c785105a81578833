/-
  DERIVED. GIVEN WITH THE SEED: THE CARDS: each row of YtbdgjnjpckhpfaaGreatDoorRows.lean that lists a variable, with what it lists TIED to the program's text (the seventh form; the later family's looks); each row that meets fmt, with fmt's text TOLD by the authors' own Lean function (tested against real Go, not proved from fmt's source: count such statements apart). THE CARD IS WHAT COUNTS. Prove the row's statement (the work); the ties are given (YtbdgjnjpckhpfaaGreatDoorTie.lean); close each card by the builder's one call (the guide's Derived/Test/ToyasCard.lean, 'card_holds'). Laid BY PROGRAM, IN A SANDBOX (cutbox-door.mjs). By AI agents, Wed Nov 11 2026. No macro, syntax, notation, axiom, sorry.
-/
import Derived.Test.YtbdgjnjpckhpfaaGreatDoorRows
import GoSem.ClaimSeven
namespace Go.Proofs.YtbdgjnjpckhpfaaGreatDoor
namespace Rows

/-- THE TIED CARD OF 'fluxmastlaw06.SpectraGains'. -/
def spectraGainsCard : Claim7 := { stood := { row := spectraGainsRow, standIns := [], harness := (true, "afc4a650df2a7f8090106ec420c4b98d93e138b8d1ee4712184133c16a37d059"), looks := false }, kinds := [], alts := [], laidByText := true, laidKinds := [.data, .data, .data], laidTests := true, laidLooks := .later }
def SpectraGainsCardSaid : Prop := Claim7.holds Tryz.pinned (.plain (OpenSpec.ofChange spectraGainsSpec)) spectraGainsCard

/-- THE SECOND FORM's CARD OF 'fluxmastlaw06.SpectraGains'. -/
def spectraGainsUptoCard : Claim7 := { stood := { row := spectraGainsUptoRow, standIns := [], harness := (true, "afc4a650df2a7f8090106ec420c4b98d93e138b8d1ee4712184133c16a37d059"), looks := false }, kinds := [], alts := [], laidByText := true, laidKinds := [.data, .data, .data], laidTests := true, laidLooks := .later }
def SpectraGainsUptoCardSaid : Prop := Claim7.holds Tryz.pinned (.plain (OpenSpec.upto spectraGainsSpec)) spectraGainsUptoCard
end Rows
end Go.Proofs.YtbdgjnjpckhpfaaGreatDoor
