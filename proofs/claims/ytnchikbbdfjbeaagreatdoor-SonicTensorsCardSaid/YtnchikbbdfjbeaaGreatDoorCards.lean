/-
  DERIVED. GIVEN WITH THE SEED: THE CARDS: each row of YtnchikbbdfjbeaaGreatDoorRows.lean that lists a variable, with what it lists TIED to the program's text (the seventh form; the later family's looks); each row that meets fmt, with fmt's text TOLD by the authors' own Lean function (tested against real Go, not proved from fmt's source: count such statements apart). THE CARD IS WHAT COUNTS. Prove the row's statement (the work); the ties are given (YtnchikbbdfjbeaaGreatDoorTie.lean); close each card by the builder's one call (the guide's Derived/Test/ToyasCard.lean, 'card_holds'). Laid BY PROGRAM, IN A SANDBOX (cutbox-door.mjs). By AI agents, Wed Nov 11 2026. No macro, syntax, notation, axiom, sorry.
-/
import Derived.Test.YtnchikbbdfjbeaaGreatDoorRows
import GoSem.ClaimSeven
namespace Go.Proofs.YtnchikbbdfjbeaaGreatDoor
namespace Rows

/-- THE TIED CARD OF 'fluxmastlaw03.SonicPaths'. -/
def sonicPathsCard : Claim7 := { stood := { row := sonicPathsRow, standIns := [], harness := (true, "2ab60edba353a6d3fa879137e214d8a51b11d914571034c236e204101c98d27f"), looks := false }, kinds := [], alts := [], laidByText := true, laidKinds := [.data, .data, .data], laidTests := true, laidLooks := .later }
def SonicPathsCardSaid : Prop := Claim7.holds Tryz.pinned (.plain (OpenSpec.ofChange sonicPathsSpec)) sonicPathsCard

/-- THE TIED CARD OF 'fluxmastlaw03.SonicWinds'. -/
def sonicWindsCard : Claim7 := { stood := { row := sonicWindsRow, standIns := [], harness := (true, "2ab60edba353a6d3fa879137e214d8a51b11d914571034c236e204101c98d27f"), looks := false }, kinds := [], alts := [], laidByText := true, laidKinds := [.data, .data, .data], laidTests := true, laidLooks := .later }
def SonicWindsCardSaid : Prop := Claim7.holds Tryz.pinned (.plain (OpenSpec.ofChange sonicWindsSpec)) sonicWindsCard

/-- THE TIED CARD OF 'fluxmastlaw03.SonicTurns'. -/
def sonicTurnsCard : Claim7 := { stood := { row := sonicTurnsRow, standIns := [], harness := (true, "2ab60edba353a6d3fa879137e214d8a51b11d914571034c236e204101c98d27f"), looks := false }, kinds := [], alts := [], laidByText := true, laidKinds := [.data, .data, .data], laidTests := true, laidLooks := .later }
def SonicTurnsCardSaid : Prop := Claim7.holds Tryz.pinned (.plain (OpenSpec.ofChange sonicTurnsSpec)) sonicTurnsCard

/-- THE TIED CARD OF 'fluxmastlaw03.SonicTensors'. -/
def sonicTensorsCard : Claim7 := { stood := { row := sonicTensorsRow, standIns := [], harness := (true, "2ab60edba353a6d3fa879137e214d8a51b11d914571034c236e204101c98d27f"), looks := false }, kinds := [], alts := [], laidByText := true, laidKinds := [.data, .data, .data], laidTests := true, laidLooks := .later }
def SonicTensorsCardSaid : Prop := Claim7.holds Tryz.pinned (.plain (OpenSpec.ofChange sonicTensorsSpec)) sonicTensorsCard

/-- THE TIED CARD OF 'fluxmastlaw04.GasCalibrates'. -/
def gasCalibratesCard : Claim7 := { stood := { row := gasCalibratesRow, standIns := [], harness := (true, "2ab60edba353a6d3fa879137e214d8a51b11d914571034c236e204101c98d27f"), looks := false }, kinds := [], alts := [], laidByText := true, laidKinds := [.data, .data, .data], laidTests := true, laidLooks := .later }
def GasCalibratesCardSaid : Prop := Claim7.holds Tryz.pinned (.plain (OpenSpec.ofChange gasCalibratesSpec)) gasCalibratesCard

/-- THE TIED CARD OF 'fluxmastlaw04.GasMixes'. -/
def gasMixesCard : Claim7 := { stood := { row := gasMixesRow, standIns := [], harness := (true, "2ab60edba353a6d3fa879137e214d8a51b11d914571034c236e204101c98d27f"), looks := false }, kinds := [], alts := [], laidByText := true, laidKinds := [.data, .data, .data], laidTests := true, laidLooks := .later }
def GasMixesCardSaid : Prop := Claim7.holds Tryz.pinned (.plain (OpenSpec.ofChange gasMixesSpec)) gasMixesCard

/-- THE TIED CARD OF 'fluxmastlaw05.EddyMoments'. -/
def eddyMomentsCard : Claim7 := { stood := { row := eddyMomentsRow, standIns := [], harness := (true, "2ab60edba353a6d3fa879137e214d8a51b11d914571034c236e204101c98d27f"), looks := false }, kinds := [], alts := [], laidByText := true, laidKinds := [.data, .data, .data], laidTests := true, laidLooks := .later }
def EddyMomentsCardSaid : Prop := Claim7.holds Tryz.pinned (.plain (OpenSpec.ofChange eddyMomentsSpec)) eddyMomentsCard

/-- THE TIED CARD OF 'fluxmastlaw05.EddyMeans'. -/
def eddyMeansCard : Claim7 := { stood := { row := eddyMeansRow, standIns := [], harness := (true, "2ab60edba353a6d3fa879137e214d8a51b11d914571034c236e204101c98d27f"), looks := false }, kinds := [], alts := [], laidByText := true, laidKinds := [.data, .data, .data], laidTests := true, laidLooks := .later }
def EddyMeansCardSaid : Prop := Claim7.holds Tryz.pinned (.plain (OpenSpec.ofChange eddyMeansSpec)) eddyMeansCard

/-- THE SECOND FORM's CARD OF 'fluxmastlaw03.SonicPaths'. -/
def sonicPathsUptoCard : Claim7 := { stood := { row := sonicPathsUptoRow, standIns := [], harness := (true, "2ab60edba353a6d3fa879137e214d8a51b11d914571034c236e204101c98d27f"), looks := false }, kinds := [], alts := [], laidByText := true, laidKinds := [.data, .data, .data], laidTests := true, laidLooks := .later }
def SonicPathsUptoCardSaid : Prop := Claim7.holds Tryz.pinned (.plain (OpenSpec.upto sonicPathsSpec)) sonicPathsUptoCard

/-- THE SECOND FORM's CARD OF 'fluxmastlaw03.SonicWinds'. -/
def sonicWindsUptoCard : Claim7 := { stood := { row := sonicWindsUptoRow, standIns := [], harness := (true, "2ab60edba353a6d3fa879137e214d8a51b11d914571034c236e204101c98d27f"), looks := false }, kinds := [], alts := [], laidByText := true, laidKinds := [.data, .data, .data], laidTests := true, laidLooks := .later }
def SonicWindsUptoCardSaid : Prop := Claim7.holds Tryz.pinned (.plain (OpenSpec.upto sonicWindsSpec)) sonicWindsUptoCard

/-- THE SECOND FORM's CARD OF 'fluxmastlaw03.SonicTurns'. -/
def sonicTurnsUptoCard : Claim7 := { stood := { row := sonicTurnsUptoRow, standIns := [], harness := (true, "2ab60edba353a6d3fa879137e214d8a51b11d914571034c236e204101c98d27f"), looks := false }, kinds := [], alts := [], laidByText := true, laidKinds := [.data, .data, .data], laidTests := true, laidLooks := .later }
def SonicTurnsUptoCardSaid : Prop := Claim7.holds Tryz.pinned (.plain (OpenSpec.upto sonicTurnsSpec)) sonicTurnsUptoCard

/-- THE SECOND FORM's CARD OF 'fluxmastlaw03.SonicTensors'. -/
def sonicTensorsUptoCard : Claim7 := { stood := { row := sonicTensorsUptoRow, standIns := [], harness := (true, "2ab60edba353a6d3fa879137e214d8a51b11d914571034c236e204101c98d27f"), looks := false }, kinds := [], alts := [], laidByText := true, laidKinds := [.data, .data, .data], laidTests := true, laidLooks := .later }
def SonicTensorsUptoCardSaid : Prop := Claim7.holds Tryz.pinned (.plain (OpenSpec.upto sonicTensorsSpec)) sonicTensorsUptoCard

/-- THE SECOND FORM's CARD OF 'fluxmastlaw04.GasCalibrates'. -/
def gasCalibratesUptoCard : Claim7 := { stood := { row := gasCalibratesUptoRow, standIns := [], harness := (true, "2ab60edba353a6d3fa879137e214d8a51b11d914571034c236e204101c98d27f"), looks := false }, kinds := [], alts := [], laidByText := true, laidKinds := [.data, .data, .data], laidTests := true, laidLooks := .later }
def GasCalibratesUptoCardSaid : Prop := Claim7.holds Tryz.pinned (.plain (OpenSpec.upto gasCalibratesSpec)) gasCalibratesUptoCard

/-- THE SECOND FORM's CARD OF 'fluxmastlaw04.GasMixes'. -/
def gasMixesUptoCard : Claim7 := { stood := { row := gasMixesUptoRow, standIns := [], harness := (true, "2ab60edba353a6d3fa879137e214d8a51b11d914571034c236e204101c98d27f"), looks := false }, kinds := [], alts := [], laidByText := true, laidKinds := [.data, .data, .data], laidTests := true, laidLooks := .later }
def GasMixesUptoCardSaid : Prop := Claim7.holds Tryz.pinned (.plain (OpenSpec.upto gasMixesSpec)) gasMixesUptoCard

/-- THE SECOND FORM's CARD OF 'fluxmastlaw05.EddyMoments'. -/
def eddyMomentsUptoCard : Claim7 := { stood := { row := eddyMomentsUptoRow, standIns := [], harness := (true, "2ab60edba353a6d3fa879137e214d8a51b11d914571034c236e204101c98d27f"), looks := false }, kinds := [], alts := [], laidByText := true, laidKinds := [.data, .data, .data], laidTests := true, laidLooks := .later }
def EddyMomentsUptoCardSaid : Prop := Claim7.holds Tryz.pinned (.plain (OpenSpec.upto eddyMomentsSpec)) eddyMomentsUptoCard

/-- THE SECOND FORM's CARD OF 'fluxmastlaw05.EddyMeans'. -/
def eddyMeansUptoCard : Claim7 := { stood := { row := eddyMeansUptoRow, standIns := [], harness := (true, "2ab60edba353a6d3fa879137e214d8a51b11d914571034c236e204101c98d27f"), looks := false }, kinds := [], alts := [], laidByText := true, laidKinds := [.data, .data, .data], laidTests := true, laidLooks := .later }
def EddyMeansUptoCardSaid : Prop := Claim7.holds Tryz.pinned (.plain (OpenSpec.upto eddyMeansSpec)) eddyMeansUptoCard
end Rows
end Go.Proofs.YtnchikbbdfjbeaaGreatDoor
