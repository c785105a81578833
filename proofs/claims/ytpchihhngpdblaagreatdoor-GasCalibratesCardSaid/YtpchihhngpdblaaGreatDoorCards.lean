/-
  DERIVED. GIVEN WITH THE SEED: THE CARDS: each row of YtpchihhngpdblaaGreatDoorRows.lean that lists a variable, with what it lists TIED to the program's text (the seventh form; the later family's looks); each row that meets fmt, with fmt's text TOLD by the authors' own Lean function (tested against real Go, not proved from fmt's source: count such statements apart). THE CARD IS WHAT COUNTS. Prove the row's statement (the work); the ties are given (YtpchihhngpdblaaGreatDoorTie.lean); close each card by the builder's one call (the guide's Derived/Test/ToyasCard.lean, 'card_holds'). Laid BY PROGRAM, IN A SANDBOX (cutbox-door.mjs). By AI agents, Wed Nov 11 2026. No macro, syntax, notation, axiom, sorry.
-/
import Derived.Test.YtpchihhngpdblaaGreatDoorRows
import GoSem.ClaimSeven
namespace Go.Proofs.YtpchihhngpdblaaGreatDoor
namespace Rows

/-- THE TIED CARD OF 'fluxmastlaw03.SonicYaws'. -/
def sonicYawsCard : Claim7 := { stood := { row := sonicYawsRow, standIns := [], harness := (true, "b88d2ba7457629ce2a2b881aa119d4b994dffa8887db11fec17b39a3404fcb59"), looks := false }, kinds := [], alts := [], laidByText := true, laidKinds := [.data, .data, .data], laidTests := true, laidLooks := .later }
def SonicYawsCardSaid : Prop := Claim7.holds Tryz.pinned (.plain (OpenSpec.ofChange sonicYawsSpec)) sonicYawsCard

/-- THE TIED CARD OF 'fluxmastlaw03.SonicPlanes'. -/
def sonicPlanesCard : Claim7 := { stood := { row := sonicPlanesRow, standIns := [], harness := (true, "b88d2ba7457629ce2a2b881aa119d4b994dffa8887db11fec17b39a3404fcb59"), looks := false }, kinds := [], alts := [], laidByText := true, laidKinds := [.data, .data, .data], laidTests := true, laidLooks := .later }
def SonicPlanesCardSaid : Prop := Claim7.holds Tryz.pinned (.plain (OpenSpec.ofChange sonicPlanesSpec)) sonicPlanesCard

/-- THE TIED CARD OF 'fluxmastlaw04.GasCalibrates'. -/
def gasCalibratesCard : Claim7 := { stood := { row := gasCalibratesRow, standIns := [], harness := (true, "b88d2ba7457629ce2a2b881aa119d4b994dffa8887db11fec17b39a3404fcb59"), looks := false }, kinds := [], alts := [], laidByText := true, laidKinds := [.data, .data, .data], laidTests := true, laidLooks := .later }
def GasCalibratesCardSaid : Prop := Claim7.holds Tryz.pinned (.plain (OpenSpec.ofChange gasCalibratesSpec)) gasCalibratesCard

/-- THE TIED CARD OF 'fluxmastlaw04.GasAnchors'. -/
def gasAnchorsCard : Claim7 := { stood := { row := gasAnchorsRow, standIns := [], harness := (true, "b88d2ba7457629ce2a2b881aa119d4b994dffa8887db11fec17b39a3404fcb59"), looks := false }, kinds := [], alts := [], laidByText := true, laidKinds := [.data, .data, .data], laidTests := true, laidLooks := .later }
def GasAnchorsCardSaid : Prop := Claim7.holds Tryz.pinned (.plain (OpenSpec.ofChange gasAnchorsSpec)) gasAnchorsCard

/-- THE TIED CARD OF 'fluxmasttop.TopDry'. -/
def topDryCard : Claim7 := { stood := { row := topDryRow, standIns := [], harness := (true, "b88d2ba7457629ce2a2b881aa119d4b994dffa8887db11fec17b39a3404fcb59"), looks := false }, kinds := [], alts := [], laidByText := true, laidKinds := [.data, .data, .data], laidTests := true, laidLooks := .later }
def TopDryCardSaid : Prop := Claim7.holds Tryz.pinned (.plain (OpenSpec.ofChange topDrySpec)) topDryCard

/-- THE SECOND FORM's CARD OF 'fluxmastlaw03.SonicYaws'. -/
def sonicYawsUptoCard : Claim7 := { stood := { row := sonicYawsUptoRow, standIns := [], harness := (true, "b88d2ba7457629ce2a2b881aa119d4b994dffa8887db11fec17b39a3404fcb59"), looks := false }, kinds := [], alts := [], laidByText := true, laidKinds := [.data, .data, .data], laidTests := true, laidLooks := .later }
def SonicYawsUptoCardSaid : Prop := Claim7.holds Tryz.pinned (.plain (OpenSpec.upto sonicYawsSpec)) sonicYawsUptoCard

/-- THE SECOND FORM's CARD OF 'fluxmastlaw03.SonicPlanes'. -/
def sonicPlanesUptoCard : Claim7 := { stood := { row := sonicPlanesUptoRow, standIns := [], harness := (true, "b88d2ba7457629ce2a2b881aa119d4b994dffa8887db11fec17b39a3404fcb59"), looks := false }, kinds := [], alts := [], laidByText := true, laidKinds := [.data, .data, .data], laidTests := true, laidLooks := .later }
def SonicPlanesUptoCardSaid : Prop := Claim7.holds Tryz.pinned (.plain (OpenSpec.upto sonicPlanesSpec)) sonicPlanesUptoCard

/-- THE SECOND FORM's CARD OF 'fluxmastlaw04.GasCalibrates'. -/
def gasCalibratesUptoCard : Claim7 := { stood := { row := gasCalibratesUptoRow, standIns := [], harness := (true, "b88d2ba7457629ce2a2b881aa119d4b994dffa8887db11fec17b39a3404fcb59"), looks := false }, kinds := [], alts := [], laidByText := true, laidKinds := [.data, .data, .data], laidTests := true, laidLooks := .later }
def GasCalibratesUptoCardSaid : Prop := Claim7.holds Tryz.pinned (.plain (OpenSpec.upto gasCalibratesSpec)) gasCalibratesUptoCard

/-- THE SECOND FORM's CARD OF 'fluxmastlaw04.GasAnchors'. -/
def gasAnchorsUptoCard : Claim7 := { stood := { row := gasAnchorsUptoRow, standIns := [], harness := (true, "b88d2ba7457629ce2a2b881aa119d4b994dffa8887db11fec17b39a3404fcb59"), looks := false }, kinds := [], alts := [], laidByText := true, laidKinds := [.data, .data, .data], laidTests := true, laidLooks := .later }
def GasAnchorsUptoCardSaid : Prop := Claim7.holds Tryz.pinned (.plain (OpenSpec.upto gasAnchorsSpec)) gasAnchorsUptoCard

/-- THE SECOND FORM's CARD OF 'fluxmasttop.TopDry'. -/
def topDryUptoCard : Claim7 := { stood := { row := topDryUptoRow, standIns := [], harness := (true, "b88d2ba7457629ce2a2b881aa119d4b994dffa8887db11fec17b39a3404fcb59"), looks := false }, kinds := [], alts := [], laidByText := true, laidKinds := [.data, .data, .data], laidTests := true, laidLooks := .later }
def TopDryUptoCardSaid : Prop := Claim7.holds Tryz.pinned (.plain (OpenSpec.upto topDrySpec)) topDryUptoCard
end Rows
end Go.Proofs.YtpchihhngpdblaaGreatDoor
