/-
  NARROWER THAN 'FOR EVERY INPUT', by the rows' own cells (each row's printed sentence says how): NumField: laid · SonicThrees: laid · SonicShades: laid · SonicKeeps: laid · SonicTraces: laid · SonicAligns: laid · SonicBest: laid · GasAnchors: laid · GasDry: laid · GasStores: laid · TopWinds: laid · TopDry: laid.
  DERIVED. THE GIVEN ROWS OF THIS SEAT. 12 by the template 'for every input the law returns true; each argument reads behind the call as it read before'; 0 by the template 'total and deterministic' (their statements: YtkkgibnoggickaaGreatDoorTotals.lean).
  GIVEN WITH THE SEED: the statements are not yours to turn. If you find one false, say at which input.
  Laid BY PROGRAM, IN A SANDBOX (cutbox-rows.mjs): the forced cells as the released guide's own fill.sh prints them over the translation 261359996b4feea2… (all of the seat's roots in one cut). By AI agents, Wed Nov 11 2026. No macro, syntax, notation, axiom, sorry.
-/
import Derived.Test.YtkkgibnoggickaaGreatDoorChecked
import GoSem.Claim
import GoSem.ClaimJoined
import GoSem.ClaimMapViews
import Derived.JoinedTies
import Derived.KernelRfl
namespace Go.Proofs.YtkkgibnoggickaaGreatDoor
/- THE CELL 'sum', in the pinned program and in every row, IS THE sha256 OF THE DUMP (.gsa) THAT YtkkgibnoggickaaGreatDoorProg.lean LOADS. Nothing in Lean hashes anything: it is a label: what it is worth is what the hold of that sum in a sandbox is worth. -/
noncomputable def Tryz.pinned : Pinned := { name := "ytkkgibnoggickaagreatdoor", sum := "261359996b4feea2c77a2adbf07f41843af9977ef4b8088817bc8f3894da5fa9", checked := Tryz.checked }
namespace Rows
def none {H : Type} : Left H := { results := [], args := [] }

/- WHAT THE LISTED PACKAGE-LEVEL VARIABLES READ AS WHEN THE CALL BEGINS. Each datum BY PROGRAM (the guide's laid-datum.mjs) off the statement by which the dump's own 'gosem.cut.vars' lays the variable. In a bare row this is a premise. The card (YtkkgibnoggickaaGreatDoorCards.lean) ties it to the program's text. -/
def laid_math_bits_deBruijn32tab {H : Type} : DataW H := .agg [.lit (.int .u8 0), .lit (.int .u8 1), .lit (.int .u8 28), .lit (.int .u8 2), .lit (.int .u8 29), .lit (.int .u8 14), .lit (.int .u8 24), .lit (.int .u8 3), .lit (.int .u8 30), .lit (.int .u8 22), .lit (.int .u8 20), .lit (.int .u8 15), .lit (.int .u8 25), .lit (.int .u8 17), .lit (.int .u8 4), .lit (.int .u8 8), .lit (.int .u8 31), .lit (.int .u8 27), .lit (.int .u8 13), .lit (.int .u8 23), .lit (.int .u8 21), .lit (.int .u8 19), .lit (.int .u8 16), .lit (.int .u8 7), .lit (.int .u8 26), .lit (.int .u8 12), .lit (.int .u8 18), .lit (.int .u8 6), .lit (.int .u8 11), .lit (.int .u8 5), .lit (.int .u8 10), .lit (.int .u8 9)]
def laid_math_bits_deBruijn64tab {H : Type} : DataW H := .agg [.lit (.int .u8 0), .lit (.int .u8 1), .lit (.int .u8 56), .lit (.int .u8 2), .lit (.int .u8 57), .lit (.int .u8 49), .lit (.int .u8 28), .lit (.int .u8 3), .lit (.int .u8 61), .lit (.int .u8 58), .lit (.int .u8 42), .lit (.int .u8 50), .lit (.int .u8 38), .lit (.int .u8 29), .lit (.int .u8 17), .lit (.int .u8 4), .lit (.int .u8 62), .lit (.int .u8 47), .lit (.int .u8 59), .lit (.int .u8 36), .lit (.int .u8 45), .lit (.int .u8 43), .lit (.int .u8 51), .lit (.int .u8 22), .lit (.int .u8 53), .lit (.int .u8 39), .lit (.int .u8 33), .lit (.int .u8 30), .lit (.int .u8 24), .lit (.int .u8 18), .lit (.int .u8 12), .lit (.int .u8 5), .lit (.int .u8 63), .lit (.int .u8 55), .lit (.int .u8 48), .lit (.int .u8 27), .lit (.int .u8 60), .lit (.int .u8 41), .lit (.int .u8 37), .lit (.int .u8 16), .lit (.int .u8 46), .lit (.int .u8 35), .lit (.int .u8 44), .lit (.int .u8 21), .lit (.int .u8 52), .lit (.int .u8 32), .lit (.int .u8 23), .lit (.int .u8 11), .lit (.int .u8 54), .lit (.int .u8 26), .lit (.int .u8 40), .lit (.int .u8 15), .lit (.int .u8 34), .lit (.int .u8 20), .lit (.int .u8 31), .lit (.int .u8 10), .lit (.int .u8 25), .lit (.int .u8 14), .lit (.int .u8 19), .lit (.int .u8 9), .lit (.int .u8 13), .lit (.int .u8 8), .lit (.int .u8 7), .lit (.int .u8 6)]
def laid_internal_strconv_uint64pow10 {H : Type} : DataW H := .agg [.lit (.int .u64 1), .lit (.int .u64 10), .lit (.int .u64 100), .lit (.int .u64 1000), .lit (.int .u64 10000), .lit (.int .u64 100000), .lit (.int .u64 1000000), .lit (.int .u64 10000000), .lit (.int .u64 100000000), .lit (.int .u64 1000000000), .lit (.int .u64 10000000000), .lit (.int .u64 100000000000), .lit (.int .u64 1000000000000), .lit (.int .u64 10000000000000), .lit (.int .u64 100000000000000), .lit (.int .u64 1000000000000000), .lit (.int .u64 10000000000000000), .lit (.int .u64 100000000000000000), .lit (.int .u64 1000000000000000000), .lit (.int .u64 10000000000000000000)]

/-- 'fluxmastlaw01.NumField': WHATEVER THE INPUT: true; the input reads as it did. -/
def numFieldSpec : ChangeSpec := { name := "numField", fn := fun _ => fun
  | [d1, d2, d3] => { results := [.lit (.bool true)], args := [d1, d2, d3] }
  | _ => none }
def numFieldRow : OpenClaim := { program := "ytkkgibnoggickaagreatdoor", sum := "261359996b4feea2c77a2adbf07f41843af9977ef4b8088817bc8f3894da5fa9", func := "fluxmast/fluxmastlaw01.NumField", spec := "numField", inPlace := ["math/bits.Sub64", "math/bits.Add64", "math.sqrt", "internal/abi.NoEscape", "internal/bytealg.MakeNoZero"], unfollowed := true, recurses := true, named := ["math/bits.deBruijn64tab", "math/bits.divideError", "math/bits.overflowError", "internal/strconv.uint64pow10", "math/bits.deBruijn32tab"], apart := false, laid := [("math/bits.deBruijn32tab", laid_math_bits_deBruijn32tab), ("math/bits.deBruijn64tab", laid_math_bits_deBruijn64tab), ("internal/strconv.uint64pow10", laid_internal_strconv_uint64pow10)] }
def NumFieldSaid : Prop := numFieldRow.holds Tryz.pinned (OpenSpec.ofChange numFieldSpec)

/-- ITS FALSE NEIGHBOUR: 'it returns false'. Refute it at one input. -/
def numFieldWrong : ChangeSpec := { name := "numField", fn := fun _ => fun
  | [d1, d2, d3] => { results := [.lit (.bool false)], args := [d1, d2, d3] }
  | _ => none }
def NumFieldWrongFalsely : Prop := numFieldRow.holds Tryz.pinned (OpenSpec.ofChange numFieldWrong)

/-- 'fluxmastlaw03.SonicThrees': WHATEVER THE INPUT: true; the input reads as it did. -/
def sonicThreesSpec : ChangeSpec := { name := "sonicThrees", fn := fun _ => fun
  | [d1, d2, d3, d4] => { results := [.lit (.bool true)], args := [d1, d2, d3, d4] }
  | _ => none }
def sonicThreesRow : OpenClaim := { program := "ytkkgibnoggickaagreatdoor", sum := "261359996b4feea2c77a2adbf07f41843af9977ef4b8088817bc8f3894da5fa9", func := "fluxmast/fluxmastlaw03.SonicThrees", spec := "sonicThrees", inPlace := ["math/bits.Sub64", "math/bits.Add64", "internal/abi.NoEscape", "internal/bytealg.MakeNoZero"], unfollowed := true, recurses := true, named := ["math/bits.deBruijn64tab", "math/bits.divideError", "math/bits.overflowError", "internal/strconv.uint64pow10", "math/bits.deBruijn32tab"], apart := false, laid := [("math/bits.deBruijn32tab", laid_math_bits_deBruijn32tab), ("math/bits.deBruijn64tab", laid_math_bits_deBruijn64tab), ("internal/strconv.uint64pow10", laid_internal_strconv_uint64pow10)] }
def SonicThreesSaid : Prop := sonicThreesRow.holds Tryz.pinned (OpenSpec.ofChange sonicThreesSpec)

/-- ITS FALSE NEIGHBOUR: 'it returns false'. Refute it at one input. -/
def sonicThreesWrong : ChangeSpec := { name := "sonicThrees", fn := fun _ => fun
  | [d1, d2, d3, d4] => { results := [.lit (.bool false)], args := [d1, d2, d3, d4] }
  | _ => none }
def SonicThreesWrongFalsely : Prop := sonicThreesRow.holds Tryz.pinned (OpenSpec.ofChange sonicThreesWrong)

/-- 'fluxmastlaw03.SonicShades': WHATEVER THE INPUT: true; the input reads as it did. -/
def sonicShadesSpec : ChangeSpec := { name := "sonicShades", fn := fun _ => fun
  | [d1, d2, d3] => { results := [.lit (.bool true)], args := [d1, d2, d3] }
  | _ => none }
def sonicShadesRow : OpenClaim := { program := "ytkkgibnoggickaagreatdoor", sum := "261359996b4feea2c77a2adbf07f41843af9977ef4b8088817bc8f3894da5fa9", func := "fluxmast/fluxmastlaw03.SonicShades", spec := "sonicShades", inPlace := ["math/bits.Sub64", "math/bits.Add64", "internal/abi.NoEscape", "internal/bytealg.MakeNoZero"], unfollowed := true, recurses := true, named := ["math/bits.deBruijn64tab", "math/bits.divideError", "math/bits.overflowError", "internal/strconv.uint64pow10", "math/bits.deBruijn32tab"], apart := false, laid := [("math/bits.deBruijn32tab", laid_math_bits_deBruijn32tab), ("math/bits.deBruijn64tab", laid_math_bits_deBruijn64tab), ("internal/strconv.uint64pow10", laid_internal_strconv_uint64pow10)] }
def SonicShadesSaid : Prop := sonicShadesRow.holds Tryz.pinned (OpenSpec.ofChange sonicShadesSpec)

/-- ITS FALSE NEIGHBOUR: 'it returns false'. Refute it at one input. -/
def sonicShadesWrong : ChangeSpec := { name := "sonicShades", fn := fun _ => fun
  | [d1, d2, d3] => { results := [.lit (.bool false)], args := [d1, d2, d3] }
  | _ => none }
def SonicShadesWrongFalsely : Prop := sonicShadesRow.holds Tryz.pinned (OpenSpec.ofChange sonicShadesWrong)

/-- 'fluxmastlaw03.SonicKeeps': WHATEVER THE INPUT: true; the input reads as it did. -/
def sonicKeepsSpec : ChangeSpec := { name := "sonicKeeps", fn := fun _ => fun
  | [d1, d2, d3, d4] => { results := [.lit (.bool true)], args := [d1, d2, d3, d4] }
  | _ => none }
def sonicKeepsRow : OpenClaim := { program := "ytkkgibnoggickaagreatdoor", sum := "261359996b4feea2c77a2adbf07f41843af9977ef4b8088817bc8f3894da5fa9", func := "fluxmast/fluxmastlaw03.SonicKeeps", spec := "sonicKeeps", inPlace := ["math/bits.Sub64", "math/bits.Add64", "internal/abi.NoEscape", "internal/bytealg.MakeNoZero"], unfollowed := true, recurses := true, named := ["math/bits.deBruijn64tab", "math/bits.divideError", "math/bits.overflowError", "internal/strconv.uint64pow10", "math/bits.deBruijn32tab"], apart := false, laid := [("math/bits.deBruijn32tab", laid_math_bits_deBruijn32tab), ("math/bits.deBruijn64tab", laid_math_bits_deBruijn64tab), ("internal/strconv.uint64pow10", laid_internal_strconv_uint64pow10)] }
def SonicKeepsSaid : Prop := sonicKeepsRow.holds Tryz.pinned (OpenSpec.ofChange sonicKeepsSpec)

/-- ITS FALSE NEIGHBOUR: 'it returns false'. Refute it at one input. -/
def sonicKeepsWrong : ChangeSpec := { name := "sonicKeeps", fn := fun _ => fun
  | [d1, d2, d3, d4] => { results := [.lit (.bool false)], args := [d1, d2, d3, d4] }
  | _ => none }
def SonicKeepsWrongFalsely : Prop := sonicKeepsRow.holds Tryz.pinned (OpenSpec.ofChange sonicKeepsWrong)

/-- 'fluxmastlaw03.SonicTraces': WHATEVER THE INPUT: true; the input reads as it did. -/
def sonicTracesSpec : ChangeSpec := { name := "sonicTraces", fn := fun _ => fun
  | [d1, d2, d3, d4] => { results := [.lit (.bool true)], args := [d1, d2, d3, d4] }
  | _ => none }
def sonicTracesRow : OpenClaim := { program := "ytkkgibnoggickaagreatdoor", sum := "261359996b4feea2c77a2adbf07f41843af9977ef4b8088817bc8f3894da5fa9", func := "fluxmast/fluxmastlaw03.SonicTraces", spec := "sonicTraces", inPlace := ["math/bits.Add64", "math/bits.Sub64", "internal/abi.NoEscape", "internal/bytealg.MakeNoZero"], unfollowed := true, recurses := true, named := ["math/bits.deBruijn64tab", "math/bits.divideError", "math/bits.overflowError", "internal/strconv.uint64pow10", "math/bits.deBruijn32tab"], apart := false, laid := [("math/bits.deBruijn32tab", laid_math_bits_deBruijn32tab), ("math/bits.deBruijn64tab", laid_math_bits_deBruijn64tab), ("internal/strconv.uint64pow10", laid_internal_strconv_uint64pow10)] }
def SonicTracesSaid : Prop := sonicTracesRow.holds Tryz.pinned (OpenSpec.ofChange sonicTracesSpec)

/-- ITS FALSE NEIGHBOUR: 'it returns false'. Refute it at one input. -/
def sonicTracesWrong : ChangeSpec := { name := "sonicTraces", fn := fun _ => fun
  | [d1, d2, d3, d4] => { results := [.lit (.bool false)], args := [d1, d2, d3, d4] }
  | _ => none }
def SonicTracesWrongFalsely : Prop := sonicTracesRow.holds Tryz.pinned (OpenSpec.ofChange sonicTracesWrong)

/-- 'fluxmastlaw03.SonicAligns': WHATEVER THE INPUT: true; the input reads as it did. -/
def sonicAlignsSpec : ChangeSpec := { name := "sonicAligns", fn := fun _ => fun
  | [d1, d2] => { results := [.lit (.bool true)], args := [d1, d2] }
  | _ => none }
def sonicAlignsRow : OpenClaim := { program := "ytkkgibnoggickaagreatdoor", sum := "261359996b4feea2c77a2adbf07f41843af9977ef4b8088817bc8f3894da5fa9", func := "fluxmast/fluxmastlaw03.SonicAligns", spec := "sonicAligns", inPlace := ["math/bits.Sub64", "math/bits.Add64", "internal/abi.NoEscape", "internal/bytealg.MakeNoZero"], unfollowed := true, recurses := true, named := ["math/bits.deBruijn64tab", "math/bits.divideError", "math/bits.overflowError", "internal/strconv.uint64pow10", "math/bits.deBruijn32tab"], apart := false, laid := [("math/bits.deBruijn32tab", laid_math_bits_deBruijn32tab), ("math/bits.deBruijn64tab", laid_math_bits_deBruijn64tab), ("internal/strconv.uint64pow10", laid_internal_strconv_uint64pow10)] }
def SonicAlignsSaid : Prop := sonicAlignsRow.holds Tryz.pinned (OpenSpec.ofChange sonicAlignsSpec)

/-- ITS FALSE NEIGHBOUR: 'it returns false'. Refute it at one input. -/
def sonicAlignsWrong : ChangeSpec := { name := "sonicAligns", fn := fun _ => fun
  | [d1, d2] => { results := [.lit (.bool false)], args := [d1, d2] }
  | _ => none }
def SonicAlignsWrongFalsely : Prop := sonicAlignsRow.holds Tryz.pinned (OpenSpec.ofChange sonicAlignsWrong)

/-- 'fluxmastlaw03.SonicBest': WHATEVER THE INPUT: true; the input reads as it did. -/
def sonicBestSpec : ChangeSpec := { name := "sonicBest", fn := fun _ => fun
  | [d1, d2, d3, d4] => { results := [.lit (.bool true)], args := [d1, d2, d3, d4] }
  | _ => none }
def sonicBestRow : OpenClaim := { program := "ytkkgibnoggickaagreatdoor", sum := "261359996b4feea2c77a2adbf07f41843af9977ef4b8088817bc8f3894da5fa9", func := "fluxmast/fluxmastlaw03.SonicBest", spec := "sonicBest", inPlace := ["math/bits.Sub64", "math/bits.Add64", "internal/abi.NoEscape", "internal/bytealg.MakeNoZero"], unfollowed := true, recurses := true, named := ["math/bits.deBruijn64tab", "math/bits.divideError", "math/bits.overflowError", "internal/strconv.uint64pow10", "math/bits.deBruijn32tab"], apart := false, laid := [("math/bits.deBruijn32tab", laid_math_bits_deBruijn32tab), ("math/bits.deBruijn64tab", laid_math_bits_deBruijn64tab), ("internal/strconv.uint64pow10", laid_internal_strconv_uint64pow10)] }
def SonicBestSaid : Prop := sonicBestRow.holds Tryz.pinned (OpenSpec.ofChange sonicBestSpec)

/-- ITS FALSE NEIGHBOUR: 'it returns false'. Refute it at one input. -/
def sonicBestWrong : ChangeSpec := { name := "sonicBest", fn := fun _ => fun
  | [d1, d2, d3, d4] => { results := [.lit (.bool false)], args := [d1, d2, d3, d4] }
  | _ => none }
def SonicBestWrongFalsely : Prop := sonicBestRow.holds Tryz.pinned (OpenSpec.ofChange sonicBestWrong)

/-- 'fluxmastlaw04.GasAnchors': WHATEVER THE INPUT: true; the input reads as it did. -/
def gasAnchorsSpec : ChangeSpec := { name := "gasAnchors", fn := fun _ => fun
  | [d1, d2, d3, d4, d5, d6, d7] => { results := [.lit (.bool true)], args := [d1, d2, d3, d4, d5, d6, d7] }
  | _ => none }
def gasAnchorsRow : OpenClaim := { program := "ytkkgibnoggickaagreatdoor", sum := "261359996b4feea2c77a2adbf07f41843af9977ef4b8088817bc8f3894da5fa9", func := "fluxmast/fluxmastlaw04.GasAnchors", spec := "gasAnchors", inPlace := ["math/bits.Sub64", "math/bits.Add64", "math.Float64bits", "internal/abi.NoEscape", "internal/bytealg.MakeNoZero"], unfollowed := true, recurses := true, named := ["math/bits.deBruijn64tab", "math/bits.divideError", "math/bits.overflowError", "internal/strconv.uint64pow10", "math/bits.deBruijn32tab"], apart := false, laid := [("math/bits.deBruijn32tab", laid_math_bits_deBruijn32tab), ("math/bits.deBruijn64tab", laid_math_bits_deBruijn64tab), ("internal/strconv.uint64pow10", laid_internal_strconv_uint64pow10)] }
def GasAnchorsSaid : Prop := gasAnchorsRow.holds Tryz.pinned (OpenSpec.ofChange gasAnchorsSpec)

/-- ITS FALSE NEIGHBOUR: 'it returns false'. Refute it at one input. -/
def gasAnchorsWrong : ChangeSpec := { name := "gasAnchors", fn := fun _ => fun
  | [d1, d2, d3, d4, d5, d6, d7] => { results := [.lit (.bool false)], args := [d1, d2, d3, d4, d5, d6, d7] }
  | _ => none }
def GasAnchorsWrongFalsely : Prop := gasAnchorsRow.holds Tryz.pinned (OpenSpec.ofChange gasAnchorsWrong)

/-- 'fluxmastlaw04.GasDry': WHATEVER THE INPUT: true; the input reads as it did. -/
def gasDrySpec : ChangeSpec := { name := "gasDry", fn := fun _ => fun
  | [d1, d2, d3, d4, d5, d6] => { results := [.lit (.bool true)], args := [d1, d2, d3, d4, d5, d6] }
  | _ => none }
def gasDryRow : OpenClaim := { program := "ytkkgibnoggickaagreatdoor", sum := "261359996b4feea2c77a2adbf07f41843af9977ef4b8088817bc8f3894da5fa9", func := "fluxmast/fluxmastlaw04.GasDry", spec := "gasDry", inPlace := ["math/bits.Sub64", "math/bits.Add64", "math.Float64bits", "internal/abi.NoEscape", "internal/bytealg.MakeNoZero"], unfollowed := true, recurses := true, named := ["math/bits.deBruijn64tab", "math/bits.divideError", "math/bits.overflowError", "internal/strconv.uint64pow10", "math/bits.deBruijn32tab"], apart := false, laid := [("math/bits.deBruijn32tab", laid_math_bits_deBruijn32tab), ("math/bits.deBruijn64tab", laid_math_bits_deBruijn64tab), ("internal/strconv.uint64pow10", laid_internal_strconv_uint64pow10)] }
def GasDrySaid : Prop := gasDryRow.holds Tryz.pinned (OpenSpec.ofChange gasDrySpec)

/-- ITS FALSE NEIGHBOUR: 'it returns false'. Refute it at one input. -/
def gasDryWrong : ChangeSpec := { name := "gasDry", fn := fun _ => fun
  | [d1, d2, d3, d4, d5, d6] => { results := [.lit (.bool false)], args := [d1, d2, d3, d4, d5, d6] }
  | _ => none }
def GasDryWrongFalsely : Prop := gasDryRow.holds Tryz.pinned (OpenSpec.ofChange gasDryWrong)

/-- 'fluxmastlaw04.GasStores': WHATEVER THE INPUT: true; the input reads as it did. -/
def gasStoresSpec : ChangeSpec := { name := "gasStores", fn := fun _ => fun
  | [d1, d2, d3, d4, d5, d6] => { results := [.lit (.bool true)], args := [d1, d2, d3, d4, d5, d6] }
  | _ => none }
def gasStoresRow : OpenClaim := { program := "ytkkgibnoggickaagreatdoor", sum := "261359996b4feea2c77a2adbf07f41843af9977ef4b8088817bc8f3894da5fa9", func := "fluxmast/fluxmastlaw04.GasStores", spec := "gasStores", inPlace := ["math/bits.Sub64", "math/bits.Add64", "math.Float64bits", "internal/abi.NoEscape", "internal/bytealg.MakeNoZero"], unfollowed := true, recurses := true, named := ["math/bits.deBruijn64tab", "math/bits.divideError", "math/bits.overflowError", "internal/strconv.uint64pow10", "math/bits.deBruijn32tab"], apart := false, laid := [("math/bits.deBruijn32tab", laid_math_bits_deBruijn32tab), ("math/bits.deBruijn64tab", laid_math_bits_deBruijn64tab), ("internal/strconv.uint64pow10", laid_internal_strconv_uint64pow10)] }
def GasStoresSaid : Prop := gasStoresRow.holds Tryz.pinned (OpenSpec.ofChange gasStoresSpec)

/-- ITS FALSE NEIGHBOUR: 'it returns false'. Refute it at one input. -/
def gasStoresWrong : ChangeSpec := { name := "gasStores", fn := fun _ => fun
  | [d1, d2, d3, d4, d5, d6] => { results := [.lit (.bool false)], args := [d1, d2, d3, d4, d5, d6] }
  | _ => none }
def GasStoresWrongFalsely : Prop := gasStoresRow.holds Tryz.pinned (OpenSpec.ofChange gasStoresWrong)

/-- 'fluxmasttop.TopWinds': WHATEVER THE INPUT: true; the input reads as it did. -/
def topWindsSpec : ChangeSpec := { name := "topWinds", fn := fun _ => fun
  | [d1, d2, d3, d4] => { results := [.lit (.bool true)], args := [d1, d2, d3, d4] }
  | _ => none }
def topWindsRow : OpenClaim := { program := "ytkkgibnoggickaagreatdoor", sum := "261359996b4feea2c77a2adbf07f41843af9977ef4b8088817bc8f3894da5fa9", func := "fluxmast/fluxmasttop.TopWinds", spec := "topWinds", inPlace := ["math/bits.Add64", "math/bits.Sub64", "internal/abi.NoEscape", "internal/bytealg.MakeNoZero"], unfollowed := true, recurses := true, named := ["math/bits.deBruijn64tab", "math/bits.divideError", "math/bits.overflowError", "internal/strconv.uint64pow10", "math/bits.deBruijn32tab"], apart := false, laid := [("math/bits.deBruijn32tab", laid_math_bits_deBruijn32tab), ("math/bits.deBruijn64tab", laid_math_bits_deBruijn64tab), ("internal/strconv.uint64pow10", laid_internal_strconv_uint64pow10)] }
def TopWindsSaid : Prop := topWindsRow.holds Tryz.pinned (OpenSpec.ofChange topWindsSpec)

/-- ITS FALSE NEIGHBOUR: 'it returns false'. Refute it at one input. -/
def topWindsWrong : ChangeSpec := { name := "topWinds", fn := fun _ => fun
  | [d1, d2, d3, d4] => { results := [.lit (.bool false)], args := [d1, d2, d3, d4] }
  | _ => none }
def TopWindsWrongFalsely : Prop := topWindsRow.holds Tryz.pinned (OpenSpec.ofChange topWindsWrong)

/-- 'fluxmasttop.TopDry': WHATEVER THE INPUT: true; the input reads as it did. -/
def topDrySpec : ChangeSpec := { name := "topDry", fn := fun _ => fun
  | [d1, d2] => { results := [.lit (.bool true)], args := [d1, d2] }
  | _ => none }
def topDryRow : OpenClaim := { program := "ytkkgibnoggickaagreatdoor", sum := "261359996b4feea2c77a2adbf07f41843af9977ef4b8088817bc8f3894da5fa9", func := "fluxmast/fluxmasttop.TopDry", spec := "topDry", inPlace := ["math/bits.Add64", "math/bits.Sub64", "internal/abi.NoEscape", "internal/bytealg.MakeNoZero"], unfollowed := true, recurses := true, named := ["math/bits.deBruijn64tab", "math/bits.divideError", "math/bits.overflowError", "internal/strconv.uint64pow10", "math/bits.deBruijn32tab"], apart := false, laid := [("math/bits.deBruijn32tab", laid_math_bits_deBruijn32tab), ("math/bits.deBruijn64tab", laid_math_bits_deBruijn64tab), ("internal/strconv.uint64pow10", laid_internal_strconv_uint64pow10)] }
def TopDrySaid : Prop := topDryRow.holds Tryz.pinned (OpenSpec.ofChange topDrySpec)

/-- ITS FALSE NEIGHBOUR: 'it returns false'. Refute it at one input. -/
def topDryWrong : ChangeSpec := { name := "topDry", fn := fun _ => fun
  | [d1, d2] => { results := [.lit (.bool false)], args := [d1, d2] }
  | _ => none }
def TopDryWrongFalsely : Prop := topDryRow.holds Tryz.pinned (OpenSpec.ofChange topDryWrong)

/- THE SECOND FORM. 'bulk': how many values and letters a reading holds, each counted each time it is reached (what is shared counts as often as it is met; a slice's spare places count too). A statement '..UptoSaid' is the law's where the arguments, and the package variables that the reading takes, are together of bulk at most 1048576: NARROWER than '..Said'. Prove '..Said' where nothing that the law and all that it calls make is longer than what came in: it says more and counts as full. Else prove '..UptoSaid'. A law counts once. -/
mutual
def uptoBulk {H : Type} : DataW H → Nat
  | .lit (.string bytes) => bytes.length + 1
  | .lit _ => 1
  | .nil => 1
  | .ptr d => uptoBulk d + 1
  | .slice elems spare => uptoBulkAll elems + uptoBulkAll spare + 1
  | .agg parts => uptoBulkAll parts + 1
  | .iface _ d => uptoBulk d + 1
  | .map entries => uptoBulkEntries entries + 1
  | .held _ => 1
def uptoBulkAll {H : Type} : List (DataW H) → Nat
  | [] => 0
  | d :: r => uptoBulk d + uptoBulkAll r
def uptoBulkEntries {H : Type} : List (Lit × DataW H) → Nat
  | [] => 0
  | x :: r => uptoBulkEntry x + uptoBulkEntries r
def uptoBulkEntry {H : Type} : Lit × DataW H → Nat
  | (.string bytes, d) => bytes.length + uptoBulk d + 1
  | (_, d) => uptoBulk d + 1
 end
def uptoSmall : (H : Type) → List (DataW H) → Bool := fun _ ds => decide (uptoBulkAll ds ≤ 1048576)
def OpenSpec.upto (s : _root_.Go.ChangeSpec) : _root_.Go.OpenSpec := { _root_.Go.OpenSpec.ofChange s with cond := some uptoSmall }

/-- 'fluxmastlaw01.NumField', WHERE WHAT IT READS IS OF BULK AT MOST 1048576: true; the input reads as it did. -/
def numFieldUptoRow : OpenClaim := { program := "ytkkgibnoggickaagreatdoor", sum := "261359996b4feea2c77a2adbf07f41843af9977ef4b8088817bc8f3894da5fa9", func := "fluxmast/fluxmastlaw01.NumField", spec := "numField", inPlace := ["math/bits.Sub64", "math/bits.Add64", "math.sqrt", "internal/abi.NoEscape", "internal/bytealg.MakeNoZero"], unfollowed := true, recurses := true, named := ["math/bits.deBruijn64tab", "math/bits.divideError", "math/bits.overflowError", "internal/strconv.uint64pow10", "math/bits.deBruijn32tab"], apart := false, laid := [("math/bits.deBruijn32tab", laid_math_bits_deBruijn32tab), ("math/bits.deBruijn64tab", laid_math_bits_deBruijn64tab), ("internal/strconv.uint64pow10", laid_internal_strconv_uint64pow10)], narrowed := true }
def NumFieldUptoSaid : Prop := numFieldUptoRow.holds Tryz.pinned (OpenSpec.upto numFieldSpec)

/-- 'fluxmastlaw03.SonicThrees', WHERE WHAT IT READS IS OF BULK AT MOST 1048576: true; the input reads as it did. -/
def sonicThreesUptoRow : OpenClaim := { program := "ytkkgibnoggickaagreatdoor", sum := "261359996b4feea2c77a2adbf07f41843af9977ef4b8088817bc8f3894da5fa9", func := "fluxmast/fluxmastlaw03.SonicThrees", spec := "sonicThrees", inPlace := ["math/bits.Sub64", "math/bits.Add64", "internal/abi.NoEscape", "internal/bytealg.MakeNoZero"], unfollowed := true, recurses := true, named := ["math/bits.deBruijn64tab", "math/bits.divideError", "math/bits.overflowError", "internal/strconv.uint64pow10", "math/bits.deBruijn32tab"], apart := false, laid := [("math/bits.deBruijn32tab", laid_math_bits_deBruijn32tab), ("math/bits.deBruijn64tab", laid_math_bits_deBruijn64tab), ("internal/strconv.uint64pow10", laid_internal_strconv_uint64pow10)], narrowed := true }
def SonicThreesUptoSaid : Prop := sonicThreesUptoRow.holds Tryz.pinned (OpenSpec.upto sonicThreesSpec)

/-- 'fluxmastlaw03.SonicShades', WHERE WHAT IT READS IS OF BULK AT MOST 1048576: true; the input reads as it did. -/
def sonicShadesUptoRow : OpenClaim := { program := "ytkkgibnoggickaagreatdoor", sum := "261359996b4feea2c77a2adbf07f41843af9977ef4b8088817bc8f3894da5fa9", func := "fluxmast/fluxmastlaw03.SonicShades", spec := "sonicShades", inPlace := ["math/bits.Sub64", "math/bits.Add64", "internal/abi.NoEscape", "internal/bytealg.MakeNoZero"], unfollowed := true, recurses := true, named := ["math/bits.deBruijn64tab", "math/bits.divideError", "math/bits.overflowError", "internal/strconv.uint64pow10", "math/bits.deBruijn32tab"], apart := false, laid := [("math/bits.deBruijn32tab", laid_math_bits_deBruijn32tab), ("math/bits.deBruijn64tab", laid_math_bits_deBruijn64tab), ("internal/strconv.uint64pow10", laid_internal_strconv_uint64pow10)], narrowed := true }
def SonicShadesUptoSaid : Prop := sonicShadesUptoRow.holds Tryz.pinned (OpenSpec.upto sonicShadesSpec)

/-- 'fluxmastlaw03.SonicKeeps', WHERE WHAT IT READS IS OF BULK AT MOST 1048576: true; the input reads as it did. -/
def sonicKeepsUptoRow : OpenClaim := { program := "ytkkgibnoggickaagreatdoor", sum := "261359996b4feea2c77a2adbf07f41843af9977ef4b8088817bc8f3894da5fa9", func := "fluxmast/fluxmastlaw03.SonicKeeps", spec := "sonicKeeps", inPlace := ["math/bits.Sub64", "math/bits.Add64", "internal/abi.NoEscape", "internal/bytealg.MakeNoZero"], unfollowed := true, recurses := true, named := ["math/bits.deBruijn64tab", "math/bits.divideError", "math/bits.overflowError", "internal/strconv.uint64pow10", "math/bits.deBruijn32tab"], apart := false, laid := [("math/bits.deBruijn32tab", laid_math_bits_deBruijn32tab), ("math/bits.deBruijn64tab", laid_math_bits_deBruijn64tab), ("internal/strconv.uint64pow10", laid_internal_strconv_uint64pow10)], narrowed := true }
def SonicKeepsUptoSaid : Prop := sonicKeepsUptoRow.holds Tryz.pinned (OpenSpec.upto sonicKeepsSpec)

/-- 'fluxmastlaw03.SonicTraces', WHERE WHAT IT READS IS OF BULK AT MOST 1048576: true; the input reads as it did. -/
def sonicTracesUptoRow : OpenClaim := { program := "ytkkgibnoggickaagreatdoor", sum := "261359996b4feea2c77a2adbf07f41843af9977ef4b8088817bc8f3894da5fa9", func := "fluxmast/fluxmastlaw03.SonicTraces", spec := "sonicTraces", inPlace := ["math/bits.Add64", "math/bits.Sub64", "internal/abi.NoEscape", "internal/bytealg.MakeNoZero"], unfollowed := true, recurses := true, named := ["math/bits.deBruijn64tab", "math/bits.divideError", "math/bits.overflowError", "internal/strconv.uint64pow10", "math/bits.deBruijn32tab"], apart := false, laid := [("math/bits.deBruijn32tab", laid_math_bits_deBruijn32tab), ("math/bits.deBruijn64tab", laid_math_bits_deBruijn64tab), ("internal/strconv.uint64pow10", laid_internal_strconv_uint64pow10)], narrowed := true }
def SonicTracesUptoSaid : Prop := sonicTracesUptoRow.holds Tryz.pinned (OpenSpec.upto sonicTracesSpec)

/-- 'fluxmastlaw03.SonicAligns', WHERE WHAT IT READS IS OF BULK AT MOST 1048576: true; the input reads as it did. -/
def sonicAlignsUptoRow : OpenClaim := { program := "ytkkgibnoggickaagreatdoor", sum := "261359996b4feea2c77a2adbf07f41843af9977ef4b8088817bc8f3894da5fa9", func := "fluxmast/fluxmastlaw03.SonicAligns", spec := "sonicAligns", inPlace := ["math/bits.Sub64", "math/bits.Add64", "internal/abi.NoEscape", "internal/bytealg.MakeNoZero"], unfollowed := true, recurses := true, named := ["math/bits.deBruijn64tab", "math/bits.divideError", "math/bits.overflowError", "internal/strconv.uint64pow10", "math/bits.deBruijn32tab"], apart := false, laid := [("math/bits.deBruijn32tab", laid_math_bits_deBruijn32tab), ("math/bits.deBruijn64tab", laid_math_bits_deBruijn64tab), ("internal/strconv.uint64pow10", laid_internal_strconv_uint64pow10)], narrowed := true }
def SonicAlignsUptoSaid : Prop := sonicAlignsUptoRow.holds Tryz.pinned (OpenSpec.upto sonicAlignsSpec)

/-- 'fluxmastlaw03.SonicBest', WHERE WHAT IT READS IS OF BULK AT MOST 1048576: true; the input reads as it did. -/
def sonicBestUptoRow : OpenClaim := { program := "ytkkgibnoggickaagreatdoor", sum := "261359996b4feea2c77a2adbf07f41843af9977ef4b8088817bc8f3894da5fa9", func := "fluxmast/fluxmastlaw03.SonicBest", spec := "sonicBest", inPlace := ["math/bits.Sub64", "math/bits.Add64", "internal/abi.NoEscape", "internal/bytealg.MakeNoZero"], unfollowed := true, recurses := true, named := ["math/bits.deBruijn64tab", "math/bits.divideError", "math/bits.overflowError", "internal/strconv.uint64pow10", "math/bits.deBruijn32tab"], apart := false, laid := [("math/bits.deBruijn32tab", laid_math_bits_deBruijn32tab), ("math/bits.deBruijn64tab", laid_math_bits_deBruijn64tab), ("internal/strconv.uint64pow10", laid_internal_strconv_uint64pow10)], narrowed := true }
def SonicBestUptoSaid : Prop := sonicBestUptoRow.holds Tryz.pinned (OpenSpec.upto sonicBestSpec)

/-- 'fluxmastlaw04.GasAnchors', WHERE WHAT IT READS IS OF BULK AT MOST 1048576: true; the input reads as it did. -/
def gasAnchorsUptoRow : OpenClaim := { program := "ytkkgibnoggickaagreatdoor", sum := "261359996b4feea2c77a2adbf07f41843af9977ef4b8088817bc8f3894da5fa9", func := "fluxmast/fluxmastlaw04.GasAnchors", spec := "gasAnchors", inPlace := ["math/bits.Sub64", "math/bits.Add64", "math.Float64bits", "internal/abi.NoEscape", "internal/bytealg.MakeNoZero"], unfollowed := true, recurses := true, named := ["math/bits.deBruijn64tab", "math/bits.divideError", "math/bits.overflowError", "internal/strconv.uint64pow10", "math/bits.deBruijn32tab"], apart := false, laid := [("math/bits.deBruijn32tab", laid_math_bits_deBruijn32tab), ("math/bits.deBruijn64tab", laid_math_bits_deBruijn64tab), ("internal/strconv.uint64pow10", laid_internal_strconv_uint64pow10)], narrowed := true }
def GasAnchorsUptoSaid : Prop := gasAnchorsUptoRow.holds Tryz.pinned (OpenSpec.upto gasAnchorsSpec)

/-- 'fluxmastlaw04.GasDry', WHERE WHAT IT READS IS OF BULK AT MOST 1048576: true; the input reads as it did. -/
def gasDryUptoRow : OpenClaim := { program := "ytkkgibnoggickaagreatdoor", sum := "261359996b4feea2c77a2adbf07f41843af9977ef4b8088817bc8f3894da5fa9", func := "fluxmast/fluxmastlaw04.GasDry", spec := "gasDry", inPlace := ["math/bits.Sub64", "math/bits.Add64", "math.Float64bits", "internal/abi.NoEscape", "internal/bytealg.MakeNoZero"], unfollowed := true, recurses := true, named := ["math/bits.deBruijn64tab", "math/bits.divideError", "math/bits.overflowError", "internal/strconv.uint64pow10", "math/bits.deBruijn32tab"], apart := false, laid := [("math/bits.deBruijn32tab", laid_math_bits_deBruijn32tab), ("math/bits.deBruijn64tab", laid_math_bits_deBruijn64tab), ("internal/strconv.uint64pow10", laid_internal_strconv_uint64pow10)], narrowed := true }
def GasDryUptoSaid : Prop := gasDryUptoRow.holds Tryz.pinned (OpenSpec.upto gasDrySpec)

/-- 'fluxmastlaw04.GasStores', WHERE WHAT IT READS IS OF BULK AT MOST 1048576: true; the input reads as it did. -/
def gasStoresUptoRow : OpenClaim := { program := "ytkkgibnoggickaagreatdoor", sum := "261359996b4feea2c77a2adbf07f41843af9977ef4b8088817bc8f3894da5fa9", func := "fluxmast/fluxmastlaw04.GasStores", spec := "gasStores", inPlace := ["math/bits.Sub64", "math/bits.Add64", "math.Float64bits", "internal/abi.NoEscape", "internal/bytealg.MakeNoZero"], unfollowed := true, recurses := true, named := ["math/bits.deBruijn64tab", "math/bits.divideError", "math/bits.overflowError", "internal/strconv.uint64pow10", "math/bits.deBruijn32tab"], apart := false, laid := [("math/bits.deBruijn32tab", laid_math_bits_deBruijn32tab), ("math/bits.deBruijn64tab", laid_math_bits_deBruijn64tab), ("internal/strconv.uint64pow10", laid_internal_strconv_uint64pow10)], narrowed := true }
def GasStoresUptoSaid : Prop := gasStoresUptoRow.holds Tryz.pinned (OpenSpec.upto gasStoresSpec)

/-- 'fluxmasttop.TopWinds', WHERE WHAT IT READS IS OF BULK AT MOST 1048576: true; the input reads as it did. -/
def topWindsUptoRow : OpenClaim := { program := "ytkkgibnoggickaagreatdoor", sum := "261359996b4feea2c77a2adbf07f41843af9977ef4b8088817bc8f3894da5fa9", func := "fluxmast/fluxmasttop.TopWinds", spec := "topWinds", inPlace := ["math/bits.Add64", "math/bits.Sub64", "internal/abi.NoEscape", "internal/bytealg.MakeNoZero"], unfollowed := true, recurses := true, named := ["math/bits.deBruijn64tab", "math/bits.divideError", "math/bits.overflowError", "internal/strconv.uint64pow10", "math/bits.deBruijn32tab"], apart := false, laid := [("math/bits.deBruijn32tab", laid_math_bits_deBruijn32tab), ("math/bits.deBruijn64tab", laid_math_bits_deBruijn64tab), ("internal/strconv.uint64pow10", laid_internal_strconv_uint64pow10)], narrowed := true }
def TopWindsUptoSaid : Prop := topWindsUptoRow.holds Tryz.pinned (OpenSpec.upto topWindsSpec)

/-- 'fluxmasttop.TopDry', WHERE WHAT IT READS IS OF BULK AT MOST 1048576: true; the input reads as it did. -/
def topDryUptoRow : OpenClaim := { program := "ytkkgibnoggickaagreatdoor", sum := "261359996b4feea2c77a2adbf07f41843af9977ef4b8088817bc8f3894da5fa9", func := "fluxmast/fluxmasttop.TopDry", spec := "topDry", inPlace := ["math/bits.Add64", "math/bits.Sub64", "internal/abi.NoEscape", "internal/bytealg.MakeNoZero"], unfollowed := true, recurses := true, named := ["math/bits.deBruijn64tab", "math/bits.divideError", "math/bits.overflowError", "internal/strconv.uint64pow10", "math/bits.deBruijn32tab"], apart := false, laid := [("math/bits.deBruijn32tab", laid_math_bits_deBruijn32tab), ("math/bits.deBruijn64tab", laid_math_bits_deBruijn64tab), ("internal/strconv.uint64pow10", laid_internal_strconv_uint64pow10)], narrowed := true }
def TopDryUptoSaid : Prop := topDryUptoRow.holds Tryz.pinned (OpenSpec.upto topDrySpec)

end Rows
end Go.Proofs.YtkkgibnoggickaaGreatDoor
