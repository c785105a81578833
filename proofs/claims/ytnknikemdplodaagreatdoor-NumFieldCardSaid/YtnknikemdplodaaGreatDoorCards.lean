/-
  DERIVED. GIVEN WITH THE SEED: THE CARDS: each row of YtnknikemdplodaaGreatDoorRows.lean that lists a variable, with what it lists TIED to the program's text (the seventh form; the later family's looks); each row that meets fmt, with fmt's text TOLD by the authors' own Lean function (tested against real Go, not proved from fmt's source: count such statements apart). THE CARD IS WHAT COUNTS. Prove the row's statement (the work); the ties are given (YtnknikemdplodaaGreatDoorTie.lean); close each card by the builder's one call (the guide's Derived/Test/ToyasCard.lean, 'card_holds'). Laid BY PROGRAM, IN A SANDBOX (cutbox-door.mjs). By AI agents, Wed Nov 11 2026. No macro, syntax, notation, axiom, sorry.
-/
import Derived.Test.YtnknikemdplodaaGreatDoorRows
import GoSem.ClaimSeven
namespace Go.Proofs.YtnknikemdplodaaGreatDoor
namespace Rows

/-- THE TIED CARD OF 'fluxmastlaw01.NumActs'. -/
def numActsCard : Claim7 := { stood := { row := numActsRow, standIns := [], harness := (true, "8bfd2dc062f351debf27da06cd06439dce0c7547aba98bbbf8652ab81ed511a7"), looks := false }, kinds := [], alts := [], laidByText := true, laidKinds := [.data, .data, .data], laidTests := true, laidLooks := .later }
def NumActsCardSaid : Prop := Claim7.holds Tryz.pinned (.plain (OpenSpec.ofChange numActsSpec)) numActsCard

/-- THE TIED CARD OF 'fluxmastlaw01.NumField'. -/
def numFieldCard : Claim7 := { stood := { row := numFieldRow, standIns := [], harness := (true, "8bfd2dc062f351debf27da06cd06439dce0c7547aba98bbbf8652ab81ed511a7"), looks := false }, kinds := [], alts := [], laidByText := true, laidKinds := [.data, .data, .data], laidTests := true, laidLooks := .later }
def NumFieldCardSaid : Prop := Claim7.holds Tryz.pinned (.plain (OpenSpec.ofChange numFieldSpec)) numFieldCard

/-- THE TIED CARD OF 'fluxmastlaw01.NumIncludes'. -/
def numIncludesCard : Claim7 := { stood := { row := numIncludesRow, standIns := [], harness := (true, "8bfd2dc062f351debf27da06cd06439dce0c7547aba98bbbf8652ab81ed511a7"), looks := false }, kinds := [], alts := [], laidByText := true, laidKinds := [.data, .data, .data], laidTests := true, laidLooks := .later }
def NumIncludesCardSaid : Prop := Claim7.holds Tryz.pinned (.plain (OpenSpec.ofChange numIncludesSpec)) numIncludesCard

/-- THE TIED CARD OF 'fluxmastlaw05.EddyGrades'. -/
def eddyGradesCard : Claim7 := { stood := { row := eddyGradesRow, standIns := [], harness := (true, "8bfd2dc062f351debf27da06cd06439dce0c7547aba98bbbf8652ab81ed511a7"), looks := false }, kinds := [], alts := [], laidByText := true, laidKinds := [.data, .data, .data], laidTests := true, laidLooks := .later }
def EddyGradesCardSaid : Prop := Claim7.holds Tryz.pinned (.plain (OpenSpec.ofChange eddyGradesSpec)) eddyGradesCard

/-- THE TIED CARD OF 'fluxmastlaw05.EddyStricter'. -/
def eddyStricterCard : Claim7 := { stood := { row := eddyStricterRow, standIns := [], harness := (true, "8bfd2dc062f351debf27da06cd06439dce0c7547aba98bbbf8652ab81ed511a7"), looks := false }, kinds := [], alts := [], laidByText := true, laidKinds := [.data, .data, .data], laidTests := true, laidLooks := .later }
def EddyStricterCardSaid : Prop := Claim7.holds Tryz.pinned (.plain (OpenSpec.ofChange eddyStricterSpec)) eddyStricterCard

/-- THE SECOND FORM's CARD OF 'fluxmastlaw01.NumActs'. -/
def numActsUptoCard : Claim7 := { stood := { row := numActsUptoRow, standIns := [], harness := (true, "8bfd2dc062f351debf27da06cd06439dce0c7547aba98bbbf8652ab81ed511a7"), looks := false }, kinds := [], alts := [], laidByText := true, laidKinds := [.data, .data, .data], laidTests := true, laidLooks := .later }
def NumActsUptoCardSaid : Prop := Claim7.holds Tryz.pinned (.plain (OpenSpec.upto numActsSpec)) numActsUptoCard

/-- THE SECOND FORM's CARD OF 'fluxmastlaw01.NumField'. -/
def numFieldUptoCard : Claim7 := { stood := { row := numFieldUptoRow, standIns := [], harness := (true, "8bfd2dc062f351debf27da06cd06439dce0c7547aba98bbbf8652ab81ed511a7"), looks := false }, kinds := [], alts := [], laidByText := true, laidKinds := [.data, .data, .data], laidTests := true, laidLooks := .later }
def NumFieldUptoCardSaid : Prop := Claim7.holds Tryz.pinned (.plain (OpenSpec.upto numFieldSpec)) numFieldUptoCard

/-- THE SECOND FORM's CARD OF 'fluxmastlaw01.NumIncludes'. -/
def numIncludesUptoCard : Claim7 := { stood := { row := numIncludesUptoRow, standIns := [], harness := (true, "8bfd2dc062f351debf27da06cd06439dce0c7547aba98bbbf8652ab81ed511a7"), looks := false }, kinds := [], alts := [], laidByText := true, laidKinds := [.data, .data, .data], laidTests := true, laidLooks := .later }
def NumIncludesUptoCardSaid : Prop := Claim7.holds Tryz.pinned (.plain (OpenSpec.upto numIncludesSpec)) numIncludesUptoCard

/-- THE SECOND FORM's CARD OF 'fluxmastlaw05.EddyGrades'. -/
def eddyGradesUptoCard : Claim7 := { stood := { row := eddyGradesUptoRow, standIns := [], harness := (true, "8bfd2dc062f351debf27da06cd06439dce0c7547aba98bbbf8652ab81ed511a7"), looks := false }, kinds := [], alts := [], laidByText := true, laidKinds := [.data, .data, .data], laidTests := true, laidLooks := .later }
def EddyGradesUptoCardSaid : Prop := Claim7.holds Tryz.pinned (.plain (OpenSpec.upto eddyGradesSpec)) eddyGradesUptoCard

/-- THE SECOND FORM's CARD OF 'fluxmastlaw05.EddyStricter'. -/
def eddyStricterUptoCard : Claim7 := { stood := { row := eddyStricterUptoRow, standIns := [], harness := (true, "8bfd2dc062f351debf27da06cd06439dce0c7547aba98bbbf8652ab81ed511a7"), looks := false }, kinds := [], alts := [], laidByText := true, laidKinds := [.data, .data, .data], laidTests := true, laidLooks := .later }
def EddyStricterUptoCardSaid : Prop := Claim7.holds Tryz.pinned (.plain (OpenSpec.upto eddyStricterSpec)) eddyStricterUptoCard
end Rows
end Go.Proofs.YtnknikemdplodaaGreatDoor
