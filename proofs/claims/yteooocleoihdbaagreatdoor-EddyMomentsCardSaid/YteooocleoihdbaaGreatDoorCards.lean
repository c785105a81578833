/-
  DERIVED. GIVEN WITH THE SEED: THE CARDS: each row of YteooocleoihdbaaGreatDoorRows.lean that lists a variable, with what it lists TIED to the program's text (the seventh form; the later family's looks); each row that meets fmt, with fmt's text TOLD by the authors' own Lean function (tested against real Go, not proved from fmt's source: count such statements apart). THE CARD IS WHAT COUNTS. Prove the row's statement (the work); the ties are given (YteooocleoihdbaaGreatDoorTie.lean); close each card by the builder's one call (the guide's Derived/Test/ToyasCard.lean, 'card_holds'). Laid BY PROGRAM, IN A SANDBOX (cutbox-door.mjs). By AI agents, Wed Nov 11 2026. No macro, syntax, notation, axiom, sorry.
-/
import Derived.Test.YteooocleoihdbaaGreatDoorRows
import GoSem.ClaimSeven
namespace Go.Proofs.YteooocleoihdbaaGreatDoor
namespace Rows

/-- THE TIED CARD OF 'fluxmastlaw03.SonicTurns'. -/
def sonicTurnsCard : Claim7 := { stood := { row := sonicTurnsRow, standIns := [], harness := (true, "15798be00cc4caccae67d9fc48c5e94e64c869f45988e5940ec122afe96e88a9"), looks := false }, kinds := [], alts := [], laidByText := true, laidKinds := [.data, .data, .data], laidTests := true, laidLooks := .later }
def SonicTurnsCardSaid : Prop := Claim7.holds Tryz.pinned (.plain (OpenSpec.ofChange sonicTurnsSpec)) sonicTurnsCard

/-- THE TIED CARD OF 'fluxmastlaw03.SonicYaws'. -/
def sonicYawsCard : Claim7 := { stood := { row := sonicYawsRow, standIns := [], harness := (true, "15798be00cc4caccae67d9fc48c5e94e64c869f45988e5940ec122afe96e88a9"), looks := false }, kinds := [], alts := [], laidByText := true, laidKinds := [.data, .data, .data], laidTests := true, laidLooks := .later }
def SonicYawsCardSaid : Prop := Claim7.holds Tryz.pinned (.plain (OpenSpec.ofChange sonicYawsSpec)) sonicYawsCard

/-- THE TIED CARD OF 'fluxmastlaw04.GasCalibrates'. -/
def gasCalibratesCard : Claim7 := { stood := { row := gasCalibratesRow, standIns := [], harness := (true, "15798be00cc4caccae67d9fc48c5e94e64c869f45988e5940ec122afe96e88a9"), looks := false }, kinds := [], alts := [], laidByText := true, laidKinds := [.data, .data, .data], laidTests := true, laidLooks := .later }
def GasCalibratesCardSaid : Prop := Claim7.holds Tryz.pinned (.plain (OpenSpec.ofChange gasCalibratesSpec)) gasCalibratesCard

/-- THE TIED CARD OF 'fluxmastlaw04.GasMixes'. -/
def gasMixesCard : Claim7 := { stood := { row := gasMixesRow, standIns := [], harness := (true, "15798be00cc4caccae67d9fc48c5e94e64c869f45988e5940ec122afe96e88a9"), looks := false }, kinds := [], alts := [], laidByText := true, laidKinds := [.data, .data, .data], laidTests := true, laidLooks := .later }
def GasMixesCardSaid : Prop := Claim7.holds Tryz.pinned (.plain (OpenSpec.ofChange gasMixesSpec)) gasMixesCard

/-- THE TIED CARD OF 'fluxmastlaw04.GasDry'. -/
def gasDryCard : Claim7 := { stood := { row := gasDryRow, standIns := [], harness := (true, "15798be00cc4caccae67d9fc48c5e94e64c869f45988e5940ec122afe96e88a9"), looks := false }, kinds := [], alts := [], laidByText := true, laidKinds := [.data, .data, .data], laidTests := true, laidLooks := .later }
def GasDryCardSaid : Prop := Claim7.holds Tryz.pinned (.plain (OpenSpec.ofChange gasDrySpec)) gasDryCard

/-- THE TIED CARD OF 'fluxmastlaw05.EddyMoments'. -/
def eddyMomentsCard : Claim7 := { stood := { row := eddyMomentsRow, standIns := [], harness := (true, "15798be00cc4caccae67d9fc48c5e94e64c869f45988e5940ec122afe96e88a9"), looks := false }, kinds := [], alts := [], laidByText := true, laidKinds := [.data, .data, .data], laidTests := true, laidLooks := .later }
def EddyMomentsCardSaid : Prop := Claim7.holds Tryz.pinned (.plain (OpenSpec.ofChange eddyMomentsSpec)) eddyMomentsCard

/-- THE TIED CARD OF 'fluxmastlaw05.EddyMeans'. -/
def eddyMeansCard : Claim7 := { stood := { row := eddyMeansRow, standIns := [], harness := (true, "15798be00cc4caccae67d9fc48c5e94e64c869f45988e5940ec122afe96e88a9"), looks := false }, kinds := [], alts := [], laidByText := true, laidKinds := [.data, .data, .data], laidTests := true, laidLooks := .later }
def EddyMeansCardSaid : Prop := Claim7.holds Tryz.pinned (.plain (OpenSpec.ofChange eddyMeansSpec)) eddyMeansCard

/-- THE SECOND FORM's CARD OF 'fluxmastlaw03.SonicTurns'. -/
def sonicTurnsUptoCard : Claim7 := { stood := { row := sonicTurnsUptoRow, standIns := [], harness := (true, "15798be00cc4caccae67d9fc48c5e94e64c869f45988e5940ec122afe96e88a9"), looks := false }, kinds := [], alts := [], laidByText := true, laidKinds := [.data, .data, .data], laidTests := true, laidLooks := .later }
def SonicTurnsUptoCardSaid : Prop := Claim7.holds Tryz.pinned (.plain (OpenSpec.upto sonicTurnsSpec)) sonicTurnsUptoCard

/-- THE SECOND FORM's CARD OF 'fluxmastlaw03.SonicYaws'. -/
def sonicYawsUptoCard : Claim7 := { stood := { row := sonicYawsUptoRow, standIns := [], harness := (true, "15798be00cc4caccae67d9fc48c5e94e64c869f45988e5940ec122afe96e88a9"), looks := false }, kinds := [], alts := [], laidByText := true, laidKinds := [.data, .data, .data], laidTests := true, laidLooks := .later }
def SonicYawsUptoCardSaid : Prop := Claim7.holds Tryz.pinned (.plain (OpenSpec.upto sonicYawsSpec)) sonicYawsUptoCard

/-- THE SECOND FORM's CARD OF 'fluxmastlaw04.GasCalibrates'. -/
def gasCalibratesUptoCard : Claim7 := { stood := { row := gasCalibratesUptoRow, standIns := [], harness := (true, "15798be00cc4caccae67d9fc48c5e94e64c869f45988e5940ec122afe96e88a9"), looks := false }, kinds := [], alts := [], laidByText := true, laidKinds := [.data, .data, .data], laidTests := true, laidLooks := .later }
def GasCalibratesUptoCardSaid : Prop := Claim7.holds Tryz.pinned (.plain (OpenSpec.upto gasCalibratesSpec)) gasCalibratesUptoCard

/-- THE SECOND FORM's CARD OF 'fluxmastlaw04.GasMixes'. -/
def gasMixesUptoCard : Claim7 := { stood := { row := gasMixesUptoRow, standIns := [], harness := (true, "15798be00cc4caccae67d9fc48c5e94e64c869f45988e5940ec122afe96e88a9"), looks := false }, kinds := [], alts := [], laidByText := true, laidKinds := [.data, .data, .data], laidTests := true, laidLooks := .later }
def GasMixesUptoCardSaid : Prop := Claim7.holds Tryz.pinned (.plain (OpenSpec.upto gasMixesSpec)) gasMixesUptoCard

/-- THE SECOND FORM's CARD OF 'fluxmastlaw04.GasDry'. -/
def gasDryUptoCard : Claim7 := { stood := { row := gasDryUptoRow, standIns := [], harness := (true, "15798be00cc4caccae67d9fc48c5e94e64c869f45988e5940ec122afe96e88a9"), looks := false }, kinds := [], alts := [], laidByText := true, laidKinds := [.data, .data, .data], laidTests := true, laidLooks := .later }
def GasDryUptoCardSaid : Prop := Claim7.holds Tryz.pinned (.plain (OpenSpec.upto gasDrySpec)) gasDryUptoCard

/-- THE SECOND FORM's CARD OF 'fluxmastlaw05.EddyMoments'. -/
def eddyMomentsUptoCard : Claim7 := { stood := { row := eddyMomentsUptoRow, standIns := [], harness := (true, "15798be00cc4caccae67d9fc48c5e94e64c869f45988e5940ec122afe96e88a9"), looks := false }, kinds := [], alts := [], laidByText := true, laidKinds := [.data, .data, .data], laidTests := true, laidLooks := .later }
def EddyMomentsUptoCardSaid : Prop := Claim7.holds Tryz.pinned (.plain (OpenSpec.upto eddyMomentsSpec)) eddyMomentsUptoCard

/-- THE SECOND FORM's CARD OF 'fluxmastlaw05.EddyMeans'. -/
def eddyMeansUptoCard : Claim7 := { stood := { row := eddyMeansUptoRow, standIns := [], harness := (true, "15798be00cc4caccae67d9fc48c5e94e64c869f45988e5940ec122afe96e88a9"), looks := false }, kinds := [], alts := [], laidByText := true, laidKinds := [.data, .data, .data], laidTests := true, laidLooks := .later }
def EddyMeansUptoCardSaid : Prop := Claim7.holds Tryz.pinned (.plain (OpenSpec.upto eddyMeansSpec)) eddyMeansUptoCard
end Rows
end Go.Proofs.YteooocleoihdbaaGreatDoor
