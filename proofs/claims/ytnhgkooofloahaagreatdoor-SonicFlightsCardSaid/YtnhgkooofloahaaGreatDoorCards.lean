/-
  DERIVED. GIVEN WITH THE SEED: THE CARDS: each row of YtnhgkooofloahaaGreatDoorRows.lean that lists a variable, with what it lists TIED to the program's text (the seventh form; the later family's looks); each row that meets fmt, with fmt's text TOLD by the authors' own Lean function (tested against real Go, not proved from fmt's source: count such statements apart). THE CARD IS WHAT COUNTS. Prove the row's statement (the work); the ties are given (YtnhgkooofloahaaGreatDoorTie.lean); close each card by the builder's one call (the guide's Derived/Test/ToyasCard.lean, 'card_holds'). Laid BY PROGRAM, IN A SANDBOX (cutbox-door.mjs). By AI agents, Wed Nov 11 2026. No macro, syntax, notation, axiom, sorry.
-/
import Derived.Test.YtnhgkooofloahaaGreatDoorRows
import GoSem.ClaimSeven
namespace Go.Proofs.YtnhgkooofloahaaGreatDoor
namespace Rows

/-- THE TIED CARD OF 'fluxmastlaw03.SonicFlights'. -/
def sonicFlightsCard : Claim7 := { stood := { row := sonicFlightsRow, standIns := [], harness := (true, "c23f6460201685195283047fa69e258968d80031943ccc96a6a016b84faf3c8a"), looks := false }, kinds := [], alts := [], laidByText := true, laidKinds := [.data, .data, .data], laidTests := true, laidLooks := .later }
def SonicFlightsCardSaid : Prop := Claim7.holds Tryz.pinned (.plain (OpenSpec.ofChange sonicFlightsSpec)) sonicFlightsCard

/-- THE TIED CARD OF 'fluxmastlaw03.SonicThrees'. -/
def sonicThreesCard : Claim7 := { stood := { row := sonicThreesRow, standIns := [], harness := (true, "c23f6460201685195283047fa69e258968d80031943ccc96a6a016b84faf3c8a"), looks := false }, kinds := [], alts := [], laidByText := true, laidKinds := [.data, .data, .data], laidTests := true, laidLooks := .later }
def SonicThreesCardSaid : Prop := Claim7.holds Tryz.pinned (.plain (OpenSpec.ofChange sonicThreesSpec)) sonicThreesCard

/-- THE TIED CARD OF 'fluxmastlaw03.SonicShades'. -/
def sonicShadesCard : Claim7 := { stood := { row := sonicShadesRow, standIns := [], harness := (true, "c23f6460201685195283047fa69e258968d80031943ccc96a6a016b84faf3c8a"), looks := false }, kinds := [], alts := [], laidByText := true, laidKinds := [.data, .data, .data], laidTests := true, laidLooks := .later }
def SonicShadesCardSaid : Prop := Claim7.holds Tryz.pinned (.plain (OpenSpec.ofChange sonicShadesSpec)) sonicShadesCard

/-- THE TIED CARD OF 'fluxmastlaw03.SonicKeeps'. -/
def sonicKeepsCard : Claim7 := { stood := { row := sonicKeepsRow, standIns := [], harness := (true, "c23f6460201685195283047fa69e258968d80031943ccc96a6a016b84faf3c8a"), looks := false }, kinds := [], alts := [], laidByText := true, laidKinds := [.data, .data, .data], laidTests := true, laidLooks := .later }
def SonicKeepsCardSaid : Prop := Claim7.holds Tryz.pinned (.plain (OpenSpec.ofChange sonicKeepsSpec)) sonicKeepsCard

/-- THE TIED CARD OF 'fluxmastlaw03.SonicTraces'. -/
def sonicTracesCard : Claim7 := { stood := { row := sonicTracesRow, standIns := [], harness := (true, "c23f6460201685195283047fa69e258968d80031943ccc96a6a016b84faf3c8a"), looks := false }, kinds := [], alts := [], laidByText := true, laidKinds := [.data, .data, .data], laidTests := true, laidLooks := .later }
def SonicTracesCardSaid : Prop := Claim7.holds Tryz.pinned (.plain (OpenSpec.ofChange sonicTracesSpec)) sonicTracesCard

/-- THE TIED CARD OF 'fluxmastlaw03.SonicAligns'. -/
def sonicAlignsCard : Claim7 := { stood := { row := sonicAlignsRow, standIns := [], harness := (true, "c23f6460201685195283047fa69e258968d80031943ccc96a6a016b84faf3c8a"), looks := false }, kinds := [], alts := [], laidByText := true, laidKinds := [.data, .data, .data], laidTests := true, laidLooks := .later }
def SonicAlignsCardSaid : Prop := Claim7.holds Tryz.pinned (.plain (OpenSpec.ofChange sonicAlignsSpec)) sonicAlignsCard

/-- THE TIED CARD OF 'fluxmastlaw03.SonicBest'. -/
def sonicBestCard : Claim7 := { stood := { row := sonicBestRow, standIns := [], harness := (true, "c23f6460201685195283047fa69e258968d80031943ccc96a6a016b84faf3c8a"), looks := false }, kinds := [], alts := [], laidByText := true, laidKinds := [.data, .data, .data], laidTests := true, laidLooks := .later }
def SonicBestCardSaid : Prop := Claim7.holds Tryz.pinned (.plain (OpenSpec.ofChange sonicBestSpec)) sonicBestCard

/-- THE TIED CARD OF 'fluxmastlaw03.SonicAround'. -/
def sonicAroundCard : Claim7 := { stood := { row := sonicAroundRow, standIns := [], harness := (true, "c23f6460201685195283047fa69e258968d80031943ccc96a6a016b84faf3c8a"), looks := false }, kinds := [], alts := [], laidByText := true, laidKinds := [.data, .data, .data], laidTests := true, laidLooks := .later }
def SonicAroundCardSaid : Prop := Claim7.holds Tryz.pinned (.plain (OpenSpec.ofChange sonicAroundSpec)) sonicAroundCard

/-- THE TIED CARD OF 'fluxmasttop.TopWinds'. -/
def topWindsCard : Claim7 := { stood := { row := topWindsRow, standIns := [], harness := (true, "c23f6460201685195283047fa69e258968d80031943ccc96a6a016b84faf3c8a"), looks := false }, kinds := [], alts := [], laidByText := true, laidKinds := [.data, .data, .data], laidTests := true, laidLooks := .later }
def TopWindsCardSaid : Prop := Claim7.holds Tryz.pinned (.plain (OpenSpec.ofChange topWindsSpec)) topWindsCard

/-- THE SECOND FORM's CARD OF 'fluxmastlaw03.SonicFlights'. -/
def sonicFlightsUptoCard : Claim7 := { stood := { row := sonicFlightsUptoRow, standIns := [], harness := (true, "c23f6460201685195283047fa69e258968d80031943ccc96a6a016b84faf3c8a"), looks := false }, kinds := [], alts := [], laidByText := true, laidKinds := [.data, .data, .data], laidTests := true, laidLooks := .later }
def SonicFlightsUptoCardSaid : Prop := Claim7.holds Tryz.pinned (.plain (OpenSpec.upto sonicFlightsSpec)) sonicFlightsUptoCard

/-- THE SECOND FORM's CARD OF 'fluxmastlaw03.SonicThrees'. -/
def sonicThreesUptoCard : Claim7 := { stood := { row := sonicThreesUptoRow, standIns := [], harness := (true, "c23f6460201685195283047fa69e258968d80031943ccc96a6a016b84faf3c8a"), looks := false }, kinds := [], alts := [], laidByText := true, laidKinds := [.data, .data, .data], laidTests := true, laidLooks := .later }
def SonicThreesUptoCardSaid : Prop := Claim7.holds Tryz.pinned (.plain (OpenSpec.upto sonicThreesSpec)) sonicThreesUptoCard

/-- THE SECOND FORM's CARD OF 'fluxmastlaw03.SonicShades'. -/
def sonicShadesUptoCard : Claim7 := { stood := { row := sonicShadesUptoRow, standIns := [], harness := (true, "c23f6460201685195283047fa69e258968d80031943ccc96a6a016b84faf3c8a"), looks := false }, kinds := [], alts := [], laidByText := true, laidKinds := [.data, .data, .data], laidTests := true, laidLooks := .later }
def SonicShadesUptoCardSaid : Prop := Claim7.holds Tryz.pinned (.plain (OpenSpec.upto sonicShadesSpec)) sonicShadesUptoCard

/-- THE SECOND FORM's CARD OF 'fluxmastlaw03.SonicKeeps'. -/
def sonicKeepsUptoCard : Claim7 := { stood := { row := sonicKeepsUptoRow, standIns := [], harness := (true, "c23f6460201685195283047fa69e258968d80031943ccc96a6a016b84faf3c8a"), looks := false }, kinds := [], alts := [], laidByText := true, laidKinds := [.data, .data, .data], laidTests := true, laidLooks := .later }
def SonicKeepsUptoCardSaid : Prop := Claim7.holds Tryz.pinned (.plain (OpenSpec.upto sonicKeepsSpec)) sonicKeepsUptoCard

/-- THE SECOND FORM's CARD OF 'fluxmastlaw03.SonicTraces'. -/
def sonicTracesUptoCard : Claim7 := { stood := { row := sonicTracesUptoRow, standIns := [], harness := (true, "c23f6460201685195283047fa69e258968d80031943ccc96a6a016b84faf3c8a"), looks := false }, kinds := [], alts := [], laidByText := true, laidKinds := [.data, .data, .data], laidTests := true, laidLooks := .later }
def SonicTracesUptoCardSaid : Prop := Claim7.holds Tryz.pinned (.plain (OpenSpec.upto sonicTracesSpec)) sonicTracesUptoCard

/-- THE SECOND FORM's CARD OF 'fluxmastlaw03.SonicAligns'. -/
def sonicAlignsUptoCard : Claim7 := { stood := { row := sonicAlignsUptoRow, standIns := [], harness := (true, "c23f6460201685195283047fa69e258968d80031943ccc96a6a016b84faf3c8a"), looks := false }, kinds := [], alts := [], laidByText := true, laidKinds := [.data, .data, .data], laidTests := true, laidLooks := .later }
def SonicAlignsUptoCardSaid : Prop := Claim7.holds Tryz.pinned (.plain (OpenSpec.upto sonicAlignsSpec)) sonicAlignsUptoCard

/-- THE SECOND FORM's CARD OF 'fluxmastlaw03.SonicBest'. -/
def sonicBestUptoCard : Claim7 := { stood := { row := sonicBestUptoRow, standIns := [], harness := (true, "c23f6460201685195283047fa69e258968d80031943ccc96a6a016b84faf3c8a"), looks := false }, kinds := [], alts := [], laidByText := true, laidKinds := [.data, .data, .data], laidTests := true, laidLooks := .later }
def SonicBestUptoCardSaid : Prop := Claim7.holds Tryz.pinned (.plain (OpenSpec.upto sonicBestSpec)) sonicBestUptoCard

/-- THE SECOND FORM's CARD OF 'fluxmastlaw03.SonicAround'. -/
def sonicAroundUptoCard : Claim7 := { stood := { row := sonicAroundUptoRow, standIns := [], harness := (true, "c23f6460201685195283047fa69e258968d80031943ccc96a6a016b84faf3c8a"), looks := false }, kinds := [], alts := [], laidByText := true, laidKinds := [.data, .data, .data], laidTests := true, laidLooks := .later }
def SonicAroundUptoCardSaid : Prop := Claim7.holds Tryz.pinned (.plain (OpenSpec.upto sonicAroundSpec)) sonicAroundUptoCard

/-- THE SECOND FORM's CARD OF 'fluxmasttop.TopWinds'. -/
def topWindsUptoCard : Claim7 := { stood := { row := topWindsUptoRow, standIns := [], harness := (true, "c23f6460201685195283047fa69e258968d80031943ccc96a6a016b84faf3c8a"), looks := false }, kinds := [], alts := [], laidByText := true, laidKinds := [.data, .data, .data], laidTests := true, laidLooks := .later }
def TopWindsUptoCardSaid : Prop := Claim7.holds Tryz.pinned (.plain (OpenSpec.upto topWindsSpec)) topWindsUptoCard
end Rows
end Go.Proofs.YtnhgkooofloahaaGreatDoor
