/-
  DERIVED. GIVEN WITH THE SEED: THE CARDS: each row of YtkkgibnoggickaaGreatDoorRows.lean that lists a variable, with what it lists TIED to the program's text (the seventh form; the later family's looks); each row that meets fmt, with fmt's text TOLD by the authors' own Lean function (tested against real Go, not proved from fmt's source: count such statements apart). THE CARD IS WHAT COUNTS. Prove the row's statement (the work); the ties are given (YtkkgibnoggickaaGreatDoorTie.lean); close each card by the builder's one call (the guide's Derived/Test/ToyasCard.lean, 'card_holds'). Laid BY PROGRAM, IN A SANDBOX (cutbox-door.mjs). By AI agents, Wed Nov 11 2026. No macro, syntax, notation, axiom, sorry.
-/
import Derived.Test.YtkkgibnoggickaaGreatDoorRows
import GoSem.ClaimSeven
namespace Go.Proofs.YtkkgibnoggickaaGreatDoor
namespace Rows

/-- THE TIED CARD OF 'fluxmastlaw01.NumField'. -/
def numFieldCard : Claim7 := { stood := { row := numFieldRow, standIns := [], harness := (true, "d36e5001bd8ab6be14b443ef6a270fb4f3e51acfd5f5388156c106ebd9b31a18"), looks := false }, kinds := [], alts := [], laidByText := true, laidKinds := [.data, .data, .data], laidTests := true, laidLooks := .later }
def NumFieldCardSaid : Prop := Claim7.holds Tryz.pinned (.plain (OpenSpec.ofChange numFieldSpec)) numFieldCard

/-- THE TIED CARD OF 'fluxmastlaw03.SonicThrees'. -/
def sonicThreesCard : Claim7 := { stood := { row := sonicThreesRow, standIns := [], harness := (true, "d36e5001bd8ab6be14b443ef6a270fb4f3e51acfd5f5388156c106ebd9b31a18"), looks := false }, kinds := [], alts := [], laidByText := true, laidKinds := [.data, .data, .data], laidTests := true, laidLooks := .later }
def SonicThreesCardSaid : Prop := Claim7.holds Tryz.pinned (.plain (OpenSpec.ofChange sonicThreesSpec)) sonicThreesCard

/-- THE TIED CARD OF 'fluxmastlaw03.SonicShades'. -/
def sonicShadesCard : Claim7 := { stood := { row := sonicShadesRow, standIns := [], harness := (true, "d36e5001bd8ab6be14b443ef6a270fb4f3e51acfd5f5388156c106ebd9b31a18"), looks := false }, kinds := [], alts := [], laidByText := true, laidKinds := [.data, .data, .data], laidTests := true, laidLooks := .later }
def SonicShadesCardSaid : Prop := Claim7.holds Tryz.pinned (.plain (OpenSpec.ofChange sonicShadesSpec)) sonicShadesCard

/-- THE TIED CARD OF 'fluxmastlaw03.SonicKeeps'. -/
def sonicKeepsCard : Claim7 := { stood := { row := sonicKeepsRow, standIns := [], harness := (true, "d36e5001bd8ab6be14b443ef6a270fb4f3e51acfd5f5388156c106ebd9b31a18"), looks := false }, kinds := [], alts := [], laidByText := true, laidKinds := [.data, .data, .data], laidTests := true, laidLooks := .later }
def SonicKeepsCardSaid : Prop := Claim7.holds Tryz.pinned (.plain (OpenSpec.ofChange sonicKeepsSpec)) sonicKeepsCard

/-- THE TIED CARD OF 'fluxmastlaw03.SonicTraces'. -/
def sonicTracesCard : Claim7 := { stood := { row := sonicTracesRow, standIns := [], harness := (true, "d36e5001bd8ab6be14b443ef6a270fb4f3e51acfd5f5388156c106ebd9b31a18"), looks := false }, kinds := [], alts := [], laidByText := true, laidKinds := [.data, .data, .data], laidTests := true, laidLooks := .later }
def SonicTracesCardSaid : Prop := Claim7.holds Tryz.pinned (.plain (OpenSpec.ofChange sonicTracesSpec)) sonicTracesCard

/-- THE TIED CARD OF 'fluxmastlaw03.SonicAligns'. -/
def sonicAlignsCard : Claim7 := { stood := { row := sonicAlignsRow, standIns := [], harness := (true, "d36e5001bd8ab6be14b443ef6a270fb4f3e51acfd5f5388156c106ebd9b31a18"), looks := false }, kinds := [], alts := [], laidByText := true, laidKinds := [.data, .data, .data], laidTests := true, laidLooks := .later }
def SonicAlignsCardSaid : Prop := Claim7.holds Tryz.pinned (.plain (OpenSpec.ofChange sonicAlignsSpec)) sonicAlignsCard

/-- THE TIED CARD OF 'fluxmastlaw03.SonicBest'. -/
def sonicBestCard : Claim7 := { stood := { row := sonicBestRow, standIns := [], harness := (true, "d36e5001bd8ab6be14b443ef6a270fb4f3e51acfd5f5388156c106ebd9b31a18"), looks := false }, kinds := [], alts := [], laidByText := true, laidKinds := [.data, .data, .data], laidTests := true, laidLooks := .later }
def SonicBestCardSaid : Prop := Claim7.holds Tryz.pinned (.plain (OpenSpec.ofChange sonicBestSpec)) sonicBestCard

/-- THE TIED CARD OF 'fluxmastlaw04.GasAnchors'. -/
def gasAnchorsCard : Claim7 := { stood := { row := gasAnchorsRow, standIns := [], harness := (true, "d36e5001bd8ab6be14b443ef6a270fb4f3e51acfd5f5388156c106ebd9b31a18"), looks := false }, kinds := [], alts := [], laidByText := true, laidKinds := [.data, .data, .data], laidTests := true, laidLooks := .later }
def GasAnchorsCardSaid : Prop := Claim7.holds Tryz.pinned (.plain (OpenSpec.ofChange gasAnchorsSpec)) gasAnchorsCard

/-- THE TIED CARD OF 'fluxmastlaw04.GasDry'. -/
def gasDryCard : Claim7 := { stood := { row := gasDryRow, standIns := [], harness := (true, "d36e5001bd8ab6be14b443ef6a270fb4f3e51acfd5f5388156c106ebd9b31a18"), looks := false }, kinds := [], alts := [], laidByText := true, laidKinds := [.data, .data, .data], laidTests := true, laidLooks := .later }
def GasDryCardSaid : Prop := Claim7.holds Tryz.pinned (.plain (OpenSpec.ofChange gasDrySpec)) gasDryCard

/-- THE TIED CARD OF 'fluxmastlaw04.GasStores'. -/
def gasStoresCard : Claim7 := { stood := { row := gasStoresRow, standIns := [], harness := (true, "d36e5001bd8ab6be14b443ef6a270fb4f3e51acfd5f5388156c106ebd9b31a18"), looks := false }, kinds := [], alts := [], laidByText := true, laidKinds := [.data, .data, .data], laidTests := true, laidLooks := .later }
def GasStoresCardSaid : Prop := Claim7.holds Tryz.pinned (.plain (OpenSpec.ofChange gasStoresSpec)) gasStoresCard

/-- THE TIED CARD OF 'fluxmasttop.TopWinds'. -/
def topWindsCard : Claim7 := { stood := { row := topWindsRow, standIns := [], harness := (true, "d36e5001bd8ab6be14b443ef6a270fb4f3e51acfd5f5388156c106ebd9b31a18"), looks := false }, kinds := [], alts := [], laidByText := true, laidKinds := [.data, .data, .data], laidTests := true, laidLooks := .later }
def TopWindsCardSaid : Prop := Claim7.holds Tryz.pinned (.plain (OpenSpec.ofChange topWindsSpec)) topWindsCard

/-- THE TIED CARD OF 'fluxmasttop.TopDry'. -/
def topDryCard : Claim7 := { stood := { row := topDryRow, standIns := [], harness := (true, "d36e5001bd8ab6be14b443ef6a270fb4f3e51acfd5f5388156c106ebd9b31a18"), looks := false }, kinds := [], alts := [], laidByText := true, laidKinds := [.data, .data, .data], laidTests := true, laidLooks := .later }
def TopDryCardSaid : Prop := Claim7.holds Tryz.pinned (.plain (OpenSpec.ofChange topDrySpec)) topDryCard

/-- THE SECOND FORM's CARD OF 'fluxmastlaw01.NumField'. -/
def numFieldUptoCard : Claim7 := { stood := { row := numFieldUptoRow, standIns := [], harness := (true, "d36e5001bd8ab6be14b443ef6a270fb4f3e51acfd5f5388156c106ebd9b31a18"), looks := false }, kinds := [], alts := [], laidByText := true, laidKinds := [.data, .data, .data], laidTests := true, laidLooks := .later }
def NumFieldUptoCardSaid : Prop := Claim7.holds Tryz.pinned (.plain (OpenSpec.upto numFieldSpec)) numFieldUptoCard

/-- THE SECOND FORM's CARD OF 'fluxmastlaw03.SonicThrees'. -/
def sonicThreesUptoCard : Claim7 := { stood := { row := sonicThreesUptoRow, standIns := [], harness := (true, "d36e5001bd8ab6be14b443ef6a270fb4f3e51acfd5f5388156c106ebd9b31a18"), looks := false }, kinds := [], alts := [], laidByText := true, laidKinds := [.data, .data, .data], laidTests := true, laidLooks := .later }
def SonicThreesUptoCardSaid : Prop := Claim7.holds Tryz.pinned (.plain (OpenSpec.upto sonicThreesSpec)) sonicThreesUptoCard

/-- THE SECOND FORM's CARD OF 'fluxmastlaw03.SonicShades'. -/
def sonicShadesUptoCard : Claim7 := { stood := { row := sonicShadesUptoRow, standIns := [], harness := (true, "d36e5001bd8ab6be14b443ef6a270fb4f3e51acfd5f5388156c106ebd9b31a18"), looks := false }, kinds := [], alts := [], laidByText := true, laidKinds := [.data, .data, .data], laidTests := true, laidLooks := .later }
def SonicShadesUptoCardSaid : Prop := Claim7.holds Tryz.pinned (.plain (OpenSpec.upto sonicShadesSpec)) sonicShadesUptoCard

/-- THE SECOND FORM's CARD OF 'fluxmastlaw03.SonicKeeps'. -/
def sonicKeepsUptoCard : Claim7 := { stood := { row := sonicKeepsUptoRow, standIns := [], harness := (true, "d36e5001bd8ab6be14b443ef6a270fb4f3e51acfd5f5388156c106ebd9b31a18"), looks := false }, kinds := [], alts := [], laidByText := true, laidKinds := [.data, .data, .data], laidTests := true, laidLooks := .later }
def SonicKeepsUptoCardSaid : Prop := Claim7.holds Tryz.pinned (.plain (OpenSpec.upto sonicKeepsSpec)) sonicKeepsUptoCard

/-- THE SECOND FORM's CARD OF 'fluxmastlaw03.SonicTraces'. -/
def sonicTracesUptoCard : Claim7 := { stood := { row := sonicTracesUptoRow, standIns := [], harness := (true, "d36e5001bd8ab6be14b443ef6a270fb4f3e51acfd5f5388156c106ebd9b31a18"), looks := false }, kinds := [], alts := [], laidByText := true, laidKinds := [.data, .data, .data], laidTests := true, laidLooks := .later }
def SonicTracesUptoCardSaid : Prop := Claim7.holds Tryz.pinned (.plain (OpenSpec.upto sonicTracesSpec)) sonicTracesUptoCard

/-- THE SECOND FORM's CARD OF 'fluxmastlaw03.SonicAligns'. -/
def sonicAlignsUptoCard : Claim7 := { stood := { row := sonicAlignsUptoRow, standIns := [], harness := (true, "d36e5001bd8ab6be14b443ef6a270fb4f3e51acfd5f5388156c106ebd9b31a18"), looks := false }, kinds := [], alts := [], laidByText := true, laidKinds := [.data, .data, .data], laidTests := true, laidLooks := .later }
def SonicAlignsUptoCardSaid : Prop := Claim7.holds Tryz.pinned (.plain (OpenSpec.upto sonicAlignsSpec)) sonicAlignsUptoCard

/-- THE SECOND FORM's CARD OF 'fluxmastlaw03.SonicBest'. -/
def sonicBestUptoCard : Claim7 := { stood := { row := sonicBestUptoRow, standIns := [], harness := (true, "d36e5001bd8ab6be14b443ef6a270fb4f3e51acfd5f5388156c106ebd9b31a18"), looks := false }, kinds := [], alts := [], laidByText := true, laidKinds := [.data, .data, .data], laidTests := true, laidLooks := .later }
def SonicBestUptoCardSaid : Prop := Claim7.holds Tryz.pinned (.plain (OpenSpec.upto sonicBestSpec)) sonicBestUptoCard

/-- THE SECOND FORM's CARD OF 'fluxmastlaw04.GasAnchors'. -/
def gasAnchorsUptoCard : Claim7 := { stood := { row := gasAnchorsUptoRow, standIns := [], harness := (true, "d36e5001bd8ab6be14b443ef6a270fb4f3e51acfd5f5388156c106ebd9b31a18"), looks := false }, kinds := [], alts := [], laidByText := true, laidKinds := [.data, .data, .data], laidTests := true, laidLooks := .later }
def GasAnchorsUptoCardSaid : Prop := Claim7.holds Tryz.pinned (.plain (OpenSpec.upto gasAnchorsSpec)) gasAnchorsUptoCard

/-- THE SECOND FORM's CARD OF 'fluxmastlaw04.GasDry'. -/
def gasDryUptoCard : Claim7 := { stood := { row := gasDryUptoRow, standIns := [], harness := (true, "d36e5001bd8ab6be14b443ef6a270fb4f3e51acfd5f5388156c106ebd9b31a18"), looks := false }, kinds := [], alts := [], laidByText := true, laidKinds := [.data, .data, .data], laidTests := true, laidLooks := .later }
def GasDryUptoCardSaid : Prop := Claim7.holds Tryz.pinned (.plain (OpenSpec.upto gasDrySpec)) gasDryUptoCard

/-- THE SECOND FORM's CARD OF 'fluxmastlaw04.GasStores'. -/
def gasStoresUptoCard : Claim7 := { stood := { row := gasStoresUptoRow, standIns := [], harness := (true, "d36e5001bd8ab6be14b443ef6a270fb4f3e51acfd5f5388156c106ebd9b31a18"), looks := false }, kinds := [], alts := [], laidByText := true, laidKinds := [.data, .data, .data], laidTests := true, laidLooks := .later }
def GasStoresUptoCardSaid : Prop := Claim7.holds Tryz.pinned (.plain (OpenSpec.upto gasStoresSpec)) gasStoresUptoCard

/-- THE SECOND FORM's CARD OF 'fluxmasttop.TopWinds'. -/
def topWindsUptoCard : Claim7 := { stood := { row := topWindsUptoRow, standIns := [], harness := (true, "d36e5001bd8ab6be14b443ef6a270fb4f3e51acfd5f5388156c106ebd9b31a18"), looks := false }, kinds := [], alts := [], laidByText := true, laidKinds := [.data, .data, .data], laidTests := true, laidLooks := .later }
def TopWindsUptoCardSaid : Prop := Claim7.holds Tryz.pinned (.plain (OpenSpec.upto topWindsSpec)) topWindsUptoCard

/-- THE SECOND FORM's CARD OF 'fluxmasttop.TopDry'. -/
def topDryUptoCard : Claim7 := { stood := { row := topDryUptoRow, standIns := [], harness := (true, "d36e5001bd8ab6be14b443ef6a270fb4f3e51acfd5f5388156c106ebd9b31a18"), looks := false }, kinds := [], alts := [], laidByText := true, laidKinds := [.data, .data, .data], laidTests := true, laidLooks := .later }
def TopDryUptoCardSaid : Prop := Claim7.holds Tryz.pinned (.plain (OpenSpec.upto topDrySpec)) topDryUptoCard
end Rows
end Go.Proofs.YtkkgibnoggickaaGreatDoor
