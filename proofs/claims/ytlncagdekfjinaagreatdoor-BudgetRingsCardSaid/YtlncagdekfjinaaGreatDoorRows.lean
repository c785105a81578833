/-
  NARROWER THAN 'FOR EVERY INPUT', by the rows' own cells (each row's printed sentence says how): BudgetRings: laid · BudgetTurns: laid · BudgetTwice: laid · BudgetGases: laid · BudgetWinters: laid · BudgetCarbons: laid · BudgetBooks: laid · BudgetPowers: laid · BudgetSoils: laid · BudgetCloses: laid.
  DERIVED. THE GIVEN ROWS OF THIS SEAT. 10 by the template 'for every input the law returns true; each argument reads behind the call as it read before'; 0 by the template 'total and deterministic' (their statements: YtlncagdekfjinaaGreatDoorTotals.lean).
  GIVEN WITH THE SEED: the statements are not yours to turn. If you find one false, say at which input.
  Laid BY PROGRAM, IN A SANDBOX (cutbox-rows.mjs): the forced cells as the released guide's own fill.sh prints them over the translation f1d859667247c910… (all of the seat's roots in one cut). By AI agents, Wed Nov 11 2026. No macro, syntax, notation, axiom, sorry.
-/
import Derived.Test.YtlncagdekfjinaaGreatDoorChecked
import GoSem.Claim
import GoSem.ClaimJoined
import GoSem.ClaimMapViews
import Derived.JoinedTies
import Derived.KernelRfl
namespace Go.Proofs.YtlncagdekfjinaaGreatDoor
/- THE CELL 'sum', in the pinned program and in every row, IS THE sha256 OF THE DUMP (.gsa) THAT YtlncagdekfjinaaGreatDoorProg.lean LOADS. Nothing in Lean hashes anything: it is a label: what it is worth is what the hold of that sum in a sandbox is worth. -/
noncomputable def Tryz.pinned : Pinned := { name := "ytlncagdekfjinaagreatdoor", sum := "f1d859667247c910938aadeff4d0b6f0f3ba92f2018886c5d8fafc9775e77a59", checked := Tryz.checked }
namespace Rows
def none {H : Type} : Left H := { results := [], args := [] }

/- WHAT THE LISTED PACKAGE-LEVEL VARIABLES READ AS WHEN THE CALL BEGINS. Each datum BY PROGRAM (the guide's laid-datum.mjs) off the statement by which the dump's own 'gosem.cut.vars' lays the variable. In a bare row this is a premise. The card (YtlncagdekfjinaaGreatDoorCards.lean) ties it to the program's text. -/
def laid_math_bits_deBruijn32tab {H : Type} : DataW H := .agg [.lit (.int .u8 0), .lit (.int .u8 1), .lit (.int .u8 28), .lit (.int .u8 2), .lit (.int .u8 29), .lit (.int .u8 14), .lit (.int .u8 24), .lit (.int .u8 3), .lit (.int .u8 30), .lit (.int .u8 22), .lit (.int .u8 20), .lit (.int .u8 15), .lit (.int .u8 25), .lit (.int .u8 17), .lit (.int .u8 4), .lit (.int .u8 8), .lit (.int .u8 31), .lit (.int .u8 27), .lit (.int .u8 13), .lit (.int .u8 23), .lit (.int .u8 21), .lit (.int .u8 19), .lit (.int .u8 16), .lit (.int .u8 7), .lit (.int .u8 26), .lit (.int .u8 12), .lit (.int .u8 18), .lit (.int .u8 6), .lit (.int .u8 11), .lit (.int .u8 5), .lit (.int .u8 10), .lit (.int .u8 9)]
def laid_math_bits_deBruijn64tab {H : Type} : DataW H := .agg [.lit (.int .u8 0), .lit (.int .u8 1), .lit (.int .u8 56), .lit (.int .u8 2), .lit (.int .u8 57), .lit (.int .u8 49), .lit (.int .u8 28), .lit (.int .u8 3), .lit (.int .u8 61), .lit (.int .u8 58), .lit (.int .u8 42), .lit (.int .u8 50), .lit (.int .u8 38), .lit (.int .u8 29), .lit (.int .u8 17), .lit (.int .u8 4), .lit (.int .u8 62), .lit (.int .u8 47), .lit (.int .u8 59), .lit (.int .u8 36), .lit (.int .u8 45), .lit (.int .u8 43), .lit (.int .u8 51), .lit (.int .u8 22), .lit (.int .u8 53), .lit (.int .u8 39), .lit (.int .u8 33), .lit (.int .u8 30), .lit (.int .u8 24), .lit (.int .u8 18), .lit (.int .u8 12), .lit (.int .u8 5), .lit (.int .u8 63), .lit (.int .u8 55), .lit (.int .u8 48), .lit (.int .u8 27), .lit (.int .u8 60), .lit (.int .u8 41), .lit (.int .u8 37), .lit (.int .u8 16), .lit (.int .u8 46), .lit (.int .u8 35), .lit (.int .u8 44), .lit (.int .u8 21), .lit (.int .u8 52), .lit (.int .u8 32), .lit (.int .u8 23), .lit (.int .u8 11), .lit (.int .u8 54), .lit (.int .u8 26), .lit (.int .u8 40), .lit (.int .u8 15), .lit (.int .u8 34), .lit (.int .u8 20), .lit (.int .u8 31), .lit (.int .u8 10), .lit (.int .u8 25), .lit (.int .u8 14), .lit (.int .u8 19), .lit (.int .u8 9), .lit (.int .u8 13), .lit (.int .u8 8), .lit (.int .u8 7), .lit (.int .u8 6)]
def laid_internal_strconv_uint64pow10 {H : Type} : DataW H := .agg [.lit (.int .u64 1), .lit (.int .u64 10), .lit (.int .u64 100), .lit (.int .u64 1000), .lit (.int .u64 10000), .lit (.int .u64 100000), .lit (.int .u64 1000000), .lit (.int .u64 10000000), .lit (.int .u64 100000000), .lit (.int .u64 1000000000), .lit (.int .u64 10000000000), .lit (.int .u64 100000000000), .lit (.int .u64 1000000000000), .lit (.int .u64 10000000000000), .lit (.int .u64 100000000000000), .lit (.int .u64 1000000000000000), .lit (.int .u64 10000000000000000), .lit (.int .u64 100000000000000000), .lit (.int .u64 1000000000000000000), .lit (.int .u64 10000000000000000000)]

/-- 'fluxmastlaw09.BudgetRings': WHATEVER THE INPUT: true; the input reads as it did. -/
def budgetRingsSpec : ChangeSpec := { name := "budgetRings", fn := fun _ => fun
  | [d] => { results := [.lit (.bool true)], args := [d] }
  | _ => none }
def budgetRingsRow : OpenClaim := { program := "ytlncagdekfjinaagreatdoor", sum := "f1d859667247c910938aadeff4d0b6f0f3ba92f2018886c5d8fafc9775e77a59", func := "fluxmast/fluxmastlaw09.BudgetRings", spec := "budgetRings", inPlace := ["math/bits.Sub64", "math/bits.Add64", "internal/abi.NoEscape", "internal/bytealg.MakeNoZero"], unfollowed := true, recurses := true, named := ["math/bits.deBruijn64tab", "math/bits.divideError", "math/bits.overflowError", "internal/strconv.uint64pow10", "math/bits.deBruijn32tab"], apart := false, laid := [("math/bits.deBruijn32tab", laid_math_bits_deBruijn32tab), ("math/bits.deBruijn64tab", laid_math_bits_deBruijn64tab), ("internal/strconv.uint64pow10", laid_internal_strconv_uint64pow10)] }
def BudgetRingsSaid : Prop := budgetRingsRow.holds Tryz.pinned (OpenSpec.ofChange budgetRingsSpec)

/-- ITS FALSE NEIGHBOUR: 'it returns false'. Refute it at one input. -/
def budgetRingsWrong : ChangeSpec := { name := "budgetRings", fn := fun _ => fun
  | [d] => { results := [.lit (.bool false)], args := [d] }
  | _ => none }
def BudgetRingsWrongFalsely : Prop := budgetRingsRow.holds Tryz.pinned (OpenSpec.ofChange budgetRingsWrong)

/-- 'fluxmastlaw09.BudgetTurns': WHATEVER THE INPUT: true; the input reads as it did. -/
def budgetTurnsSpec : ChangeSpec := { name := "budgetTurns", fn := fun _ => fun
  | [d1, d2] => { results := [.lit (.bool true)], args := [d1, d2] }
  | _ => none }
def budgetTurnsRow : OpenClaim := { program := "ytlncagdekfjinaagreatdoor", sum := "f1d859667247c910938aadeff4d0b6f0f3ba92f2018886c5d8fafc9775e77a59", func := "fluxmast/fluxmastlaw09.BudgetTurns", spec := "budgetTurns", inPlace := ["math/bits.Sub64", "math/bits.Add64", "internal/abi.NoEscape", "internal/bytealg.MakeNoZero"], unfollowed := true, recurses := true, named := ["math/bits.deBruijn64tab", "math/bits.divideError", "math/bits.overflowError", "internal/strconv.uint64pow10", "math/bits.deBruijn32tab"], apart := false, laid := [("math/bits.deBruijn32tab", laid_math_bits_deBruijn32tab), ("math/bits.deBruijn64tab", laid_math_bits_deBruijn64tab), ("internal/strconv.uint64pow10", laid_internal_strconv_uint64pow10)] }
def BudgetTurnsSaid : Prop := budgetTurnsRow.holds Tryz.pinned (OpenSpec.ofChange budgetTurnsSpec)

/-- ITS FALSE NEIGHBOUR: 'it returns false'. Refute it at one input. -/
def budgetTurnsWrong : ChangeSpec := { name := "budgetTurns", fn := fun _ => fun
  | [d1, d2] => { results := [.lit (.bool false)], args := [d1, d2] }
  | _ => none }
def BudgetTurnsWrongFalsely : Prop := budgetTurnsRow.holds Tryz.pinned (OpenSpec.ofChange budgetTurnsWrong)

/-- 'fluxmastlaw09.BudgetTwice': WHATEVER THE INPUT: true; the input reads as it did. -/
def budgetTwiceSpec : ChangeSpec := { name := "budgetTwice", fn := fun _ => fun
  | [d1, d2, d3, d4, d5] => { results := [.lit (.bool true)], args := [d1, d2, d3, d4, d5] }
  | _ => none }
def budgetTwiceRow : OpenClaim := { program := "ytlncagdekfjinaagreatdoor", sum := "f1d859667247c910938aadeff4d0b6f0f3ba92f2018886c5d8fafc9775e77a59", func := "fluxmast/fluxmastlaw09.BudgetTwice", spec := "budgetTwice", inPlace := ["math/bits.Sub64", "math/bits.Add64", "internal/abi.NoEscape", "internal/bytealg.MakeNoZero"], unfollowed := true, recurses := true, named := ["math/bits.deBruijn64tab", "math/bits.divideError", "math/bits.overflowError", "internal/strconv.uint64pow10", "math/bits.deBruijn32tab"], apart := false, laid := [("math/bits.deBruijn32tab", laid_math_bits_deBruijn32tab), ("math/bits.deBruijn64tab", laid_math_bits_deBruijn64tab), ("internal/strconv.uint64pow10", laid_internal_strconv_uint64pow10)] }
def BudgetTwiceSaid : Prop := budgetTwiceRow.holds Tryz.pinned (OpenSpec.ofChange budgetTwiceSpec)

/-- ITS FALSE NEIGHBOUR: 'it returns false'. Refute it at one input. -/
def budgetTwiceWrong : ChangeSpec := { name := "budgetTwice", fn := fun _ => fun
  | [d1, d2, d3, d4, d5] => { results := [.lit (.bool false)], args := [d1, d2, d3, d4, d5] }
  | _ => none }
def BudgetTwiceWrongFalsely : Prop := budgetTwiceRow.holds Tryz.pinned (OpenSpec.ofChange budgetTwiceWrong)

/-- 'fluxmastlaw09.BudgetGases': WHATEVER THE INPUT: true; the input reads as it did. -/
def budgetGasesSpec : ChangeSpec := { name := "budgetGases", fn := fun _ => fun
  | [d] => { results := [.lit (.bool true)], args := [d] }
  | _ => none }
def budgetGasesRow : OpenClaim := { program := "ytlncagdekfjinaagreatdoor", sum := "f1d859667247c910938aadeff4d0b6f0f3ba92f2018886c5d8fafc9775e77a59", func := "fluxmast/fluxmastlaw09.BudgetGases", spec := "budgetGases", inPlace := ["math/bits.Sub64", "math/bits.Add64", "internal/abi.NoEscape", "internal/bytealg.MakeNoZero"], unfollowed := true, recurses := true, named := ["math/bits.deBruijn64tab", "math/bits.divideError", "math/bits.overflowError", "internal/strconv.uint64pow10", "math/bits.deBruijn32tab"], apart := false, laid := [("math/bits.deBruijn32tab", laid_math_bits_deBruijn32tab), ("math/bits.deBruijn64tab", laid_math_bits_deBruijn64tab), ("internal/strconv.uint64pow10", laid_internal_strconv_uint64pow10)] }
def BudgetGasesSaid : Prop := budgetGasesRow.holds Tryz.pinned (OpenSpec.ofChange budgetGasesSpec)

/-- ITS FALSE NEIGHBOUR: 'it returns false'. Refute it at one input. -/
def budgetGasesWrong : ChangeSpec := { name := "budgetGases", fn := fun _ => fun
  | [d] => { results := [.lit (.bool false)], args := [d] }
  | _ => none }
def BudgetGasesWrongFalsely : Prop := budgetGasesRow.holds Tryz.pinned (OpenSpec.ofChange budgetGasesWrong)

/-- 'fluxmastlaw09.BudgetWinters': WHATEVER THE INPUT: true; the input reads as it did. -/
def budgetWintersSpec : ChangeSpec := { name := "budgetWinters", fn := fun _ => fun
  | [d1, d2, d3, d4, d5, d6] => { results := [.lit (.bool true)], args := [d1, d2, d3, d4, d5, d6] }
  | _ => none }
def budgetWintersRow : OpenClaim := { program := "ytlncagdekfjinaagreatdoor", sum := "f1d859667247c910938aadeff4d0b6f0f3ba92f2018886c5d8fafc9775e77a59", func := "fluxmast/fluxmastlaw09.BudgetWinters", spec := "budgetWinters", inPlace := ["math/bits.Sub64", "math/bits.Add64", "internal/abi.NoEscape", "internal/bytealg.MakeNoZero"], unfollowed := true, recurses := true, named := ["math/bits.deBruijn64tab", "math/bits.divideError", "math/bits.overflowError", "internal/strconv.uint64pow10", "math/bits.deBruijn32tab"], apart := false, laid := [("math/bits.deBruijn32tab", laid_math_bits_deBruijn32tab), ("math/bits.deBruijn64tab", laid_math_bits_deBruijn64tab), ("internal/strconv.uint64pow10", laid_internal_strconv_uint64pow10)] }
def BudgetWintersSaid : Prop := budgetWintersRow.holds Tryz.pinned (OpenSpec.ofChange budgetWintersSpec)

/-- ITS FALSE NEIGHBOUR: 'it returns false'. Refute it at one input. -/
def budgetWintersWrong : ChangeSpec := { name := "budgetWinters", fn := fun _ => fun
  | [d1, d2, d3, d4, d5, d6] => { results := [.lit (.bool false)], args := [d1, d2, d3, d4, d5, d6] }
  | _ => none }
def BudgetWintersWrongFalsely : Prop := budgetWintersRow.holds Tryz.pinned (OpenSpec.ofChange budgetWintersWrong)

/-- 'fluxmastlaw09.BudgetCarbons': WHATEVER THE INPUT: true; the input reads as it did. -/
def budgetCarbonsSpec : ChangeSpec := { name := "budgetCarbons", fn := fun _ => fun
  | [d1, d2, d3, d4, d5, d6] => { results := [.lit (.bool true)], args := [d1, d2, d3, d4, d5, d6] }
  | _ => none }
def budgetCarbonsRow : OpenClaim := { program := "ytlncagdekfjinaagreatdoor", sum := "f1d859667247c910938aadeff4d0b6f0f3ba92f2018886c5d8fafc9775e77a59", func := "fluxmast/fluxmastlaw09.BudgetCarbons", spec := "budgetCarbons", inPlace := ["math/bits.Sub64", "math/bits.Add64", "internal/abi.NoEscape", "internal/bytealg.MakeNoZero"], unfollowed := true, recurses := true, named := ["math/bits.deBruijn64tab", "math/bits.divideError", "math/bits.overflowError", "internal/strconv.uint64pow10", "math/bits.deBruijn32tab"], apart := false, laid := [("math/bits.deBruijn32tab", laid_math_bits_deBruijn32tab), ("math/bits.deBruijn64tab", laid_math_bits_deBruijn64tab), ("internal/strconv.uint64pow10", laid_internal_strconv_uint64pow10)] }
def BudgetCarbonsSaid : Prop := budgetCarbonsRow.holds Tryz.pinned (OpenSpec.ofChange budgetCarbonsSpec)

/-- ITS FALSE NEIGHBOUR: 'it returns false'. Refute it at one input. -/
def budgetCarbonsWrong : ChangeSpec := { name := "budgetCarbons", fn := fun _ => fun
  | [d1, d2, d3, d4, d5, d6] => { results := [.lit (.bool false)], args := [d1, d2, d3, d4, d5, d6] }
  | _ => none }
def BudgetCarbonsWrongFalsely : Prop := budgetCarbonsRow.holds Tryz.pinned (OpenSpec.ofChange budgetCarbonsWrong)

/-- 'fluxmastlaw09.BudgetBooks': WHATEVER THE INPUT: true; the input reads as it did. -/
def budgetBooksSpec : ChangeSpec := { name := "budgetBooks", fn := fun _ => fun
  | [d1, d2, d3, d4] => { results := [.lit (.bool true)], args := [d1, d2, d3, d4] }
  | _ => none }
def budgetBooksRow : OpenClaim := { program := "ytlncagdekfjinaagreatdoor", sum := "f1d859667247c910938aadeff4d0b6f0f3ba92f2018886c5d8fafc9775e77a59", func := "fluxmast/fluxmastlaw09.BudgetBooks", spec := "budgetBooks", inPlace := ["math/bits.Sub64", "math/bits.Add64", "internal/abi.NoEscape", "internal/bytealg.MakeNoZero"], unfollowed := true, recurses := true, named := ["math/bits.deBruijn64tab", "math/bits.divideError", "math/bits.overflowError", "internal/strconv.uint64pow10", "math/bits.deBruijn32tab"], apart := false, laid := [("math/bits.deBruijn32tab", laid_math_bits_deBruijn32tab), ("math/bits.deBruijn64tab", laid_math_bits_deBruijn64tab), ("internal/strconv.uint64pow10", laid_internal_strconv_uint64pow10)] }
def BudgetBooksSaid : Prop := budgetBooksRow.holds Tryz.pinned (OpenSpec.ofChange budgetBooksSpec)

/-- ITS FALSE NEIGHBOUR: 'it returns false'. Refute it at one input. -/
def budgetBooksWrong : ChangeSpec := { name := "budgetBooks", fn := fun _ => fun
  | [d1, d2, d3, d4] => { results := [.lit (.bool false)], args := [d1, d2, d3, d4] }
  | _ => none }
def BudgetBooksWrongFalsely : Prop := budgetBooksRow.holds Tryz.pinned (OpenSpec.ofChange budgetBooksWrong)

/-- 'fluxmastlaw09.BudgetPowers': WHATEVER THE INPUT: true; the input reads as it did. -/
def budgetPowersSpec : ChangeSpec := { name := "budgetPowers", fn := fun _ => fun
  | [d1, d2, d3, d4] => { results := [.lit (.bool true)], args := [d1, d2, d3, d4] }
  | _ => none }
def budgetPowersRow : OpenClaim := { program := "ytlncagdekfjinaagreatdoor", sum := "f1d859667247c910938aadeff4d0b6f0f3ba92f2018886c5d8fafc9775e77a59", func := "fluxmast/fluxmastlaw09.BudgetPowers", spec := "budgetPowers", inPlace := ["math/bits.Sub64", "math/bits.Add64", "internal/abi.NoEscape", "internal/bytealg.MakeNoZero"], unfollowed := true, recurses := true, named := ["math/bits.deBruijn64tab", "math/bits.divideError", "math/bits.overflowError", "internal/strconv.uint64pow10", "math/bits.deBruijn32tab"], apart := false, laid := [("math/bits.deBruijn32tab", laid_math_bits_deBruijn32tab), ("math/bits.deBruijn64tab", laid_math_bits_deBruijn64tab), ("internal/strconv.uint64pow10", laid_internal_strconv_uint64pow10)] }
def BudgetPowersSaid : Prop := budgetPowersRow.holds Tryz.pinned (OpenSpec.ofChange budgetPowersSpec)

/-- ITS FALSE NEIGHBOUR: 'it returns false'. Refute it at one input. -/
def budgetPowersWrong : ChangeSpec := { name := "budgetPowers", fn := fun _ => fun
  | [d1, d2, d3, d4] => { results := [.lit (.bool false)], args := [d1, d2, d3, d4] }
  | _ => none }
def BudgetPowersWrongFalsely : Prop := budgetPowersRow.holds Tryz.pinned (OpenSpec.ofChange budgetPowersWrong)

/-- 'fluxmastlaw09.BudgetSoils': WHATEVER THE INPUT: true; the input reads as it did. -/
def budgetSoilsSpec : ChangeSpec := { name := "budgetSoils", fn := fun _ => fun
  | [d1, d2, d3, d4, d5, d6, d7] => { results := [.lit (.bool true)], args := [d1, d2, d3, d4, d5, d6, d7] }
  | _ => none }
def budgetSoilsRow : OpenClaim := { program := "ytlncagdekfjinaagreatdoor", sum := "f1d859667247c910938aadeff4d0b6f0f3ba92f2018886c5d8fafc9775e77a59", func := "fluxmast/fluxmastlaw09.BudgetSoils", spec := "budgetSoils", inPlace := ["math/bits.Sub64", "math/bits.Add64", "internal/abi.NoEscape", "internal/bytealg.MakeNoZero", "math.Float64bits"], unfollowed := true, recurses := true, named := ["math/bits.deBruijn64tab", "math/bits.divideError", "math/bits.overflowError", "internal/strconv.uint64pow10", "math/bits.deBruijn32tab"], apart := false, laid := [("math/bits.deBruijn32tab", laid_math_bits_deBruijn32tab), ("math/bits.deBruijn64tab", laid_math_bits_deBruijn64tab), ("internal/strconv.uint64pow10", laid_internal_strconv_uint64pow10)] }
def BudgetSoilsSaid : Prop := budgetSoilsRow.holds Tryz.pinned (OpenSpec.ofChange budgetSoilsSpec)

/-- ITS FALSE NEIGHBOUR: 'it returns false'. Refute it at one input. -/
def budgetSoilsWrong : ChangeSpec := { name := "budgetSoils", fn := fun _ => fun
  | [d1, d2, d3, d4, d5, d6, d7] => { results := [.lit (.bool false)], args := [d1, d2, d3, d4, d5, d6, d7] }
  | _ => none }
def BudgetSoilsWrongFalsely : Prop := budgetSoilsRow.holds Tryz.pinned (OpenSpec.ofChange budgetSoilsWrong)

/-- 'fluxmastlaw09.BudgetCloses': WHATEVER THE INPUT: true; the input reads as it did. -/
def budgetClosesSpec : ChangeSpec := { name := "budgetCloses", fn := fun _ => fun
  | [d1, d2, d3] => { results := [.lit (.bool true)], args := [d1, d2, d3] }
  | _ => none }
def budgetClosesRow : OpenClaim := { program := "ytlncagdekfjinaagreatdoor", sum := "f1d859667247c910938aadeff4d0b6f0f3ba92f2018886c5d8fafc9775e77a59", func := "fluxmast/fluxmastlaw09.BudgetCloses", spec := "budgetCloses", inPlace := ["math/bits.Sub64", "math/bits.Add64", "internal/abi.NoEscape", "internal/bytealg.MakeNoZero"], unfollowed := true, recurses := true, named := ["math/bits.deBruijn64tab", "math/bits.divideError", "math/bits.overflowError", "internal/strconv.uint64pow10", "math/bits.deBruijn32tab"], apart := false, laid := [("math/bits.deBruijn32tab", laid_math_bits_deBruijn32tab), ("math/bits.deBruijn64tab", laid_math_bits_deBruijn64tab), ("internal/strconv.uint64pow10", laid_internal_strconv_uint64pow10)] }
def BudgetClosesSaid : Prop := budgetClosesRow.holds Tryz.pinned (OpenSpec.ofChange budgetClosesSpec)

/-- ITS FALSE NEIGHBOUR: 'it returns false'. Refute it at one input. -/
def budgetClosesWrong : ChangeSpec := { name := "budgetCloses", fn := fun _ => fun
  | [d1, d2, d3] => { results := [.lit (.bool false)], args := [d1, d2, d3] }
  | _ => none }
def BudgetClosesWrongFalsely : Prop := budgetClosesRow.holds Tryz.pinned (OpenSpec.ofChange budgetClosesWrong)

/- THE SECOND FORM. 'bulk': how many values and letters a reading holds, each counted each time it is reached (what is shared counts as often as it is met; a slice's spare places count too). A statement '..UptoSaid' is the law's where the arguments, and the package variables that the reading takes, are together of bulk at most 1048576: NARROWER than '..Said'. Prove '..Said' where nothing that the law and all that it calls make is longer than what came in: it says more and counts as full. Else prove '..UptoSaid'. A law counts once. -/
mutual
def uptoBulk {H : Type} : DataW H → Nat
  | .lit (.string bytes) => bytes.length + 1
  | .lit _ => 1
  | .nil => 1
  | .ptr d => uptoBulk d + 1
  | .slice elems spare => uptoBulkAll elems + uptoBulkAll spare + 1
  | .agg parts => uptoBulkAll parts + 1
  | .iface _ d => uptoBulk d + 1
  | .map entries => uptoBulkEntries entries + 1
  | .held _ => 1
def uptoBulkAll {H : Type} : List (DataW H) → Nat
  | [] => 0
  | d :: r => uptoBulk d + uptoBulkAll r
def uptoBulkEntries {H : Type} : List (Lit × DataW H) → Nat
  | [] => 0
  | x :: r => uptoBulkEntry x + uptoBulkEntries r
def uptoBulkEntry {H : Type} : Lit × DataW H → Nat
  | (.string bytes, d) => bytes.length + uptoBulk d + 1
  | (_, d) => uptoBulk d + 1
 end
def uptoSmall : (H : Type) → List (DataW H) → Bool := fun _ ds => decide (uptoBulkAll ds ≤ 1048576)
def OpenSpec.upto (s : _root_.Go.ChangeSpec) : _root_.Go.OpenSpec := { _root_.Go.OpenSpec.ofChange s with cond := some uptoSmall }

/-- 'fluxmastlaw09.BudgetRings', WHERE WHAT IT READS IS OF BULK AT MOST 1048576: true; the input reads as it did. -/
def budgetRingsUptoRow : OpenClaim := { program := "ytlncagdekfjinaagreatdoor", sum := "f1d859667247c910938aadeff4d0b6f0f3ba92f2018886c5d8fafc9775e77a59", func := "fluxmast/fluxmastlaw09.BudgetRings", spec := "budgetRings", inPlace := ["math/bits.Sub64", "math/bits.Add64", "internal/abi.NoEscape", "internal/bytealg.MakeNoZero"], unfollowed := true, recurses := true, named := ["math/bits.deBruijn64tab", "math/bits.divideError", "math/bits.overflowError", "internal/strconv.uint64pow10", "math/bits.deBruijn32tab"], apart := false, laid := [("math/bits.deBruijn32tab", laid_math_bits_deBruijn32tab), ("math/bits.deBruijn64tab", laid_math_bits_deBruijn64tab), ("internal/strconv.uint64pow10", laid_internal_strconv_uint64pow10)], narrowed := true }
def BudgetRingsUptoSaid : Prop := budgetRingsUptoRow.holds Tryz.pinned (OpenSpec.upto budgetRingsSpec)

/-- 'fluxmastlaw09.BudgetTurns', WHERE WHAT IT READS IS OF BULK AT MOST 1048576: true; the input reads as it did. -/
def budgetTurnsUptoRow : OpenClaim := { program := "ytlncagdekfjinaagreatdoor", sum := "f1d859667247c910938aadeff4d0b6f0f3ba92f2018886c5d8fafc9775e77a59", func := "fluxmast/fluxmastlaw09.BudgetTurns", spec := "budgetTurns", inPlace := ["math/bits.Sub64", "math/bits.Add64", "internal/abi.NoEscape", "internal/bytealg.MakeNoZero"], unfollowed := true, recurses := true, named := ["math/bits.deBruijn64tab", "math/bits.divideError", "math/bits.overflowError", "internal/strconv.uint64pow10", "math/bits.deBruijn32tab"], apart := false, laid := [("math/bits.deBruijn32tab", laid_math_bits_deBruijn32tab), ("math/bits.deBruijn64tab", laid_math_bits_deBruijn64tab), ("internal/strconv.uint64pow10", laid_internal_strconv_uint64pow10)], narrowed := true }
def BudgetTurnsUptoSaid : Prop := budgetTurnsUptoRow.holds Tryz.pinned (OpenSpec.upto budgetTurnsSpec)

/-- 'fluxmastlaw09.BudgetTwice', WHERE WHAT IT READS IS OF BULK AT MOST 1048576: true; the input reads as it did. -/
def budgetTwiceUptoRow : OpenClaim := { program := "ytlncagdekfjinaagreatdoor", sum := "f1d859667247c910938aadeff4d0b6f0f3ba92f2018886c5d8fafc9775e77a59", func := "fluxmast/fluxmastlaw09.BudgetTwice", spec := "budgetTwice", inPlace := ["math/bits.Sub64", "math/bits.Add64", "internal/abi.NoEscape", "internal/bytealg.MakeNoZero"], unfollowed := true, recurses := true, named := ["math/bits.deBruijn64tab", "math/bits.divideError", "math/bits.overflowError", "internal/strconv.uint64pow10", "math/bits.deBruijn32tab"], apart := false, laid := [("math/bits.deBruijn32tab", laid_math_bits_deBruijn32tab), ("math/bits.deBruijn64tab", laid_math_bits_deBruijn64tab), ("internal/strconv.uint64pow10", laid_internal_strconv_uint64pow10)], narrowed := true }
def BudgetTwiceUptoSaid : Prop := budgetTwiceUptoRow.holds Tryz.pinned (OpenSpec.upto budgetTwiceSpec)

/-- 'fluxmastlaw09.BudgetGases', WHERE WHAT IT READS IS OF BULK AT MOST 1048576: true; the input reads as it did. -/
def budgetGasesUptoRow : OpenClaim := { program := "ytlncagdekfjinaagreatdoor", sum := "f1d859667247c910938aadeff4d0b6f0f3ba92f2018886c5d8fafc9775e77a59", func := "fluxmast/fluxmastlaw09.BudgetGases", spec := "budgetGases", inPlace := ["math/bits.Sub64", "math/bits.Add64", "internal/abi.NoEscape", "internal/bytealg.MakeNoZero"], unfollowed := true, recurses := true, named := ["math/bits.deBruijn64tab", "math/bits.divideError", "math/bits.overflowError", "internal/strconv.uint64pow10", "math/bits.deBruijn32tab"], apart := false, laid := [("math/bits.deBruijn32tab", laid_math_bits_deBruijn32tab), ("math/bits.deBruijn64tab", laid_math_bits_deBruijn64tab), ("internal/strconv.uint64pow10", laid_internal_strconv_uint64pow10)], narrowed := true }
def BudgetGasesUptoSaid : Prop := budgetGasesUptoRow.holds Tryz.pinned (OpenSpec.upto budgetGasesSpec)

/-- 'fluxmastlaw09.BudgetWinters', WHERE WHAT IT READS IS OF BULK AT MOST 1048576: true; the input reads as it did. -/
def budgetWintersUptoRow : OpenClaim := { program := "ytlncagdekfjinaagreatdoor", sum := "f1d859667247c910938aadeff4d0b6f0f3ba92f2018886c5d8fafc9775e77a59", func := "fluxmast/fluxmastlaw09.BudgetWinters", spec := "budgetWinters", inPlace := ["math/bits.Sub64", "math/bits.Add64", "internal/abi.NoEscape", "internal/bytealg.MakeNoZero"], unfollowed := true, recurses := true, named := ["math/bits.deBruijn64tab", "math/bits.divideError", "math/bits.overflowError", "internal/strconv.uint64pow10", "math/bits.deBruijn32tab"], apart := false, laid := [("math/bits.deBruijn32tab", laid_math_bits_deBruijn32tab), ("math/bits.deBruijn64tab", laid_math_bits_deBruijn64tab), ("internal/strconv.uint64pow10", laid_internal_strconv_uint64pow10)], narrowed := true }
def BudgetWintersUptoSaid : Prop := budgetWintersUptoRow.holds Tryz.pinned (OpenSpec.upto budgetWintersSpec)

/-- 'fluxmastlaw09.BudgetCarbons', WHERE WHAT IT READS IS OF BULK AT MOST 1048576: true; the input reads as it did. -/
def budgetCarbonsUptoRow : OpenClaim := { program := "ytlncagdekfjinaagreatdoor", sum := "f1d859667247c910938aadeff4d0b6f0f3ba92f2018886c5d8fafc9775e77a59", func := "fluxmast/fluxmastlaw09.BudgetCarbons", spec := "budgetCarbons", inPlace := ["math/bits.Sub64", "math/bits.Add64", "internal/abi.NoEscape", "internal/bytealg.MakeNoZero"], unfollowed := true, recurses := true, named := ["math/bits.deBruijn64tab", "math/bits.divideError", "math/bits.overflowError", "internal/strconv.uint64pow10", "math/bits.deBruijn32tab"], apart := false, laid := [("math/bits.deBruijn32tab", laid_math_bits_deBruijn32tab), ("math/bits.deBruijn64tab", laid_math_bits_deBruijn64tab), ("internal/strconv.uint64pow10", laid_internal_strconv_uint64pow10)], narrowed := true }
def BudgetCarbonsUptoSaid : Prop := budgetCarbonsUptoRow.holds Tryz.pinned (OpenSpec.upto budgetCarbonsSpec)

/-- 'fluxmastlaw09.BudgetBooks', WHERE WHAT IT READS IS OF BULK AT MOST 1048576: true; the input reads as it did. -/
def budgetBooksUptoRow : OpenClaim := { program := "ytlncagdekfjinaagreatdoor", sum := "f1d859667247c910938aadeff4d0b6f0f3ba92f2018886c5d8fafc9775e77a59", func := "fluxmast/fluxmastlaw09.BudgetBooks", spec := "budgetBooks", inPlace := ["math/bits.Sub64", "math/bits.Add64", "internal/abi.NoEscape", "internal/bytealg.MakeNoZero"], unfollowed := true, recurses := true, named := ["math/bits.deBruijn64tab", "math/bits.divideError", "math/bits.overflowError", "internal/strconv.uint64pow10", "math/bits.deBruijn32tab"], apart := false, laid := [("math/bits.deBruijn32tab", laid_math_bits_deBruijn32tab), ("math/bits.deBruijn64tab", laid_math_bits_deBruijn64tab), ("internal/strconv.uint64pow10", laid_internal_strconv_uint64pow10)], narrowed := true }
def BudgetBooksUptoSaid : Prop := budgetBooksUptoRow.holds Tryz.pinned (OpenSpec.upto budgetBooksSpec)

/-- 'fluxmastlaw09.BudgetPowers', WHERE WHAT IT READS IS OF BULK AT MOST 1048576: true; the input reads as it did. -/
def budgetPowersUptoRow : OpenClaim := { program := "ytlncagdekfjinaagreatdoor", sum := "f1d859667247c910938aadeff4d0b6f0f3ba92f2018886c5d8fafc9775e77a59", func := "fluxmast/fluxmastlaw09.BudgetPowers", spec := "budgetPowers", inPlace := ["math/bits.Sub64", "math/bits.Add64", "internal/abi.NoEscape", "internal/bytealg.MakeNoZero"], unfollowed := true, recurses := true, named := ["math/bits.deBruijn64tab", "math/bits.divideError", "math/bits.overflowError", "internal/strconv.uint64pow10", "math/bits.deBruijn32tab"], apart := false, laid := [("math/bits.deBruijn32tab", laid_math_bits_deBruijn32tab), ("math/bits.deBruijn64tab", laid_math_bits_deBruijn64tab), ("internal/strconv.uint64pow10", laid_internal_strconv_uint64pow10)], narrowed := true }
def BudgetPowersUptoSaid : Prop := budgetPowersUptoRow.holds Tryz.pinned (OpenSpec.upto budgetPowersSpec)

/-- 'fluxmastlaw09.BudgetSoils', WHERE WHAT IT READS IS OF BULK AT MOST 1048576: true; the input reads as it did. -/
def budgetSoilsUptoRow : OpenClaim := { program := "ytlncagdekfjinaagreatdoor", sum := "f1d859667247c910938aadeff4d0b6f0f3ba92f2018886c5d8fafc9775e77a59", func := "fluxmast/fluxmastlaw09.BudgetSoils", spec := "budgetSoils", inPlace := ["math/bits.Sub64", "math/bits.Add64", "internal/abi.NoEscape", "internal/bytealg.MakeNoZero", "math.Float64bits"], unfollowed := true, recurses := true, named := ["math/bits.deBruijn64tab", "math/bits.divideError", "math/bits.overflowError", "internal/strconv.uint64pow10", "math/bits.deBruijn32tab"], apart := false, laid := [("math/bits.deBruijn32tab", laid_math_bits_deBruijn32tab), ("math/bits.deBruijn64tab", laid_math_bits_deBruijn64tab), ("internal/strconv.uint64pow10", laid_internal_strconv_uint64pow10)], narrowed := true }
def BudgetSoilsUptoSaid : Prop := budgetSoilsUptoRow.holds Tryz.pinned (OpenSpec.upto budgetSoilsSpec)

/-- 'fluxmastlaw09.BudgetCloses', WHERE WHAT IT READS IS OF BULK AT MOST 1048576: true; the input reads as it did. -/
def budgetClosesUptoRow : OpenClaim := { program := "ytlncagdekfjinaagreatdoor", sum := "f1d859667247c910938aadeff4d0b6f0f3ba92f2018886c5d8fafc9775e77a59", func := "fluxmast/fluxmastlaw09.BudgetCloses", spec := "budgetCloses", inPlace := ["math/bits.Sub64", "math/bits.Add64", "internal/abi.NoEscape", "internal/bytealg.MakeNoZero"], unfollowed := true, recurses := true, named := ["math/bits.deBruijn64tab", "math/bits.divideError", "math/bits.overflowError", "internal/strconv.uint64pow10", "math/bits.deBruijn32tab"], apart := false, laid := [("math/bits.deBruijn32tab", laid_math_bits_deBruijn32tab), ("math/bits.deBruijn64tab", laid_math_bits_deBruijn64tab), ("internal/strconv.uint64pow10", laid_internal_strconv_uint64pow10)], narrowed := true }
def BudgetClosesUptoSaid : Prop := budgetClosesUptoRow.holds Tryz.pinned (OpenSpec.upto budgetClosesSpec)

end Rows
end Go.Proofs.YtlncagdekfjinaaGreatDoor
