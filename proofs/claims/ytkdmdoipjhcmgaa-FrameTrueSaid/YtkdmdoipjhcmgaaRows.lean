/-
  No cell of these rows narrows 'for every input' (looked for: loops, veiled, ifaces, maps, wideKeys, modest, calm, conditions, laid).
  DERIVED. THE GIVEN ROWS OF THIS SEAT. 6 by the template 'for every input the law returns true; each argument reads behind the call as it read before'; 0 by the template 'total and deterministic' (their statements: YtkdmdoipjhcmgaaTotals.lean).
  GIVEN WITH THE SEED: the statements are not yours to turn. If you find one false, say at which input.
  Laid BY PROGRAM, IN A SANDBOX (cutbox-rows.mjs): the forced cells as the released guide's own fill.sh prints them over the translation 2f0cf12f9e53eaf1… (all of the seat's roots in one cut). By AI agents, Wed Nov 11 2026. No macro, syntax, notation, axiom, sorry.
-/
import Derived.Test.YtkdmdoipjhcmgaaChecked
import GoSem.Claim
import GoSem.ClaimJoined
import GoSem.ClaimMapViews
import Derived.JoinedTies
import Derived.KernelRfl
namespace Go.Proofs.Ytkdmdoipjhcmgaa
/- THE CELL 'sum', in the pinned program and in every row, IS THE sha256 OF THE DUMP (.gsa) THAT YtkdmdoipjhcmgaaProg.lean LOADS. Nothing in Lean hashes anything: it is a label: what it is worth is what the hold of that sum in a sandbox is worth. -/
noncomputable def Try.pinned : Pinned := { name := "ytkdmdoipjhcmgaa", sum := "2f0cf12f9e53eaf15248c551e923bd7d74cf6eb0ca7dfafbc6b248ed3b015f03", checked := Try.checked }
namespace Rows
def none {H : Type} : Left H := { results := [], args := [] }

/-- 'fluxmastlaw02.FrameSeals': WHATEVER THE INPUT: true; the input reads as it did. -/
def frameSealsSpec : ChangeSpec := { name := "frameSeals", fn := fun _ => fun
  | [d1, d2, d3, d4] => { results := [.lit (.bool true)], args := [d1, d2, d3, d4] }
  | _ => none }
def frameSealsRow : OpenClaim := { program := "ytkdmdoipjhcmgaa", sum := "2f0cf12f9e53eaf15248c551e923bd7d74cf6eb0ca7dfafbc6b248ed3b015f03", func := "fluxmast/fluxmastlaw02.FrameSeals", spec := "frameSeals", inPlace := ["math.Float32bits", "math.Float32frombits"], apart := false }
def FrameSealsSaid : Prop := frameSealsRow.holds Try.pinned (OpenSpec.ofChange frameSealsSpec)

/-- ITS FALSE NEIGHBOUR: 'it returns false'. Refute it at one input. -/
def frameSealsWrong : ChangeSpec := { name := "frameSeals", fn := fun _ => fun
  | [d1, d2, d3, d4] => { results := [.lit (.bool false)], args := [d1, d2, d3, d4] }
  | _ => none }
def FrameSealsWrongFalsely : Prop := frameSealsRow.holds Try.pinned (OpenSpec.ofChange frameSealsWrong)

/-- 'fluxmastlaw02.FrameDigests': WHATEVER THE INPUT: true; the input reads as it did. -/
def frameDigestsSpec : ChangeSpec := { name := "frameDigests", fn := fun _ => fun
  | [d1, d2, d3] => { results := [.lit (.bool true)], args := [d1, d2, d3] }
  | _ => none }
def frameDigestsRow : OpenClaim := { program := "ytkdmdoipjhcmgaa", sum := "2f0cf12f9e53eaf15248c551e923bd7d74cf6eb0ca7dfafbc6b248ed3b015f03", func := "fluxmast/fluxmastlaw02.FrameDigests", spec := "frameDigests", inPlace := ["math.Float32bits"], apart := false }
def FrameDigestsSaid : Prop := frameDigestsRow.holds Try.pinned (OpenSpec.ofChange frameDigestsSpec)

/-- ITS FALSE NEIGHBOUR: 'it returns false'. Refute it at one input. -/
def frameDigestsWrong : ChangeSpec := { name := "frameDigests", fn := fun _ => fun
  | [d1, d2, d3] => { results := [.lit (.bool false)], args := [d1, d2, d3] }
  | _ => none }
def FrameDigestsWrongFalsely : Prop := frameDigestsRow.holds Try.pinned (OpenSpec.ofChange frameDigestsWrong)

/-- 'fluxmastlaw02.FrameTimes': WHATEVER THE INPUT: true; the input reads as it did. -/
def frameTimesSpec : ChangeSpec := { name := "frameTimes", fn := fun _ => fun
  | [d1, d2, d3, d4] => { results := [.lit (.bool true)], args := [d1, d2, d3, d4] }
  | _ => none }
def frameTimesRow : OpenClaim := { program := "ytkdmdoipjhcmgaa", sum := "2f0cf12f9e53eaf15248c551e923bd7d74cf6eb0ca7dfafbc6b248ed3b015f03", func := "fluxmast/fluxmastlaw02.FrameTimes", spec := "frameTimes", inPlace := ["math.Float32bits"], apart := false }
def FrameTimesSaid : Prop := frameTimesRow.holds Try.pinned (OpenSpec.ofChange frameTimesSpec)

/-- ITS FALSE NEIGHBOUR: 'it returns false'. Refute it at one input. -/
def frameTimesWrong : ChangeSpec := { name := "frameTimes", fn := fun _ => fun
  | [d1, d2, d3, d4] => { results := [.lit (.bool false)], args := [d1, d2, d3, d4] }
  | _ => none }
def FrameTimesWrongFalsely : Prop := frameTimesRow.holds Try.pinned (OpenSpec.ofChange frameTimesWrong)

/-- 'fluxmastlaw02.FrameBoards': WHATEVER THE INPUT: true; the input reads as it did. -/
def frameBoardsSpec : ChangeSpec := { name := "frameBoards", fn := fun _ => fun
  | [d] => { results := [.lit (.bool true)], args := [d] }
  | _ => none }
def frameBoardsRow : OpenClaim := { program := "ytkdmdoipjhcmgaa", sum := "2f0cf12f9e53eaf15248c551e923bd7d74cf6eb0ca7dfafbc6b248ed3b015f03", func := "fluxmast/fluxmastlaw02.FrameBoards", spec := "frameBoards", inPlace := ["math.Float32bits"], unfollowed := true, recurses := true, apart := false }
def FrameBoardsSaid : Prop := frameBoardsRow.holds Try.pinned (OpenSpec.ofChange frameBoardsSpec)

/-- ITS FALSE NEIGHBOUR: 'it returns false'. Refute it at one input. -/
def frameBoardsWrong : ChangeSpec := { name := "frameBoards", fn := fun _ => fun
  | [d] => { results := [.lit (.bool false)], args := [d] }
  | _ => none }
def FrameBoardsWrongFalsely : Prop := frameBoardsRow.holds Try.pinned (OpenSpec.ofChange frameBoardsWrong)

/-- 'fluxmastlaw02.FrameTrue': WHATEVER THE INPUT: true; the input reads as it did. -/
def frameTrueSpec : ChangeSpec := { name := "frameTrue", fn := fun _ => fun
  | [d1, d2, d3, d4] => { results := [.lit (.bool true)], args := [d1, d2, d3, d4] }
  | _ => none }
def frameTrueRow : OpenClaim := { program := "ytkdmdoipjhcmgaa", sum := "2f0cf12f9e53eaf15248c551e923bd7d74cf6eb0ca7dfafbc6b248ed3b015f03", func := "fluxmast/fluxmastlaw02.FrameTrue", spec := "frameTrue", inPlace := ["math.Float32bits"], unfollowed := true, recurses := true, apart := false }
def FrameTrueSaid : Prop := frameTrueRow.holds Try.pinned (OpenSpec.ofChange frameTrueSpec)

/-- ITS FALSE NEIGHBOUR: 'it returns false'. Refute it at one input. -/
def frameTrueWrong : ChangeSpec := { name := "frameTrue", fn := fun _ => fun
  | [d1, d2, d3, d4] => { results := [.lit (.bool false)], args := [d1, d2, d3, d4] }
  | _ => none }
def FrameTrueWrongFalsely : Prop := frameTrueRow.holds Try.pinned (OpenSpec.ofChange frameTrueWrong)

/-- 'fluxmastlaw02.FrameHears': WHATEVER THE INPUT: true; the input reads as it did. -/
def frameHearsSpec : ChangeSpec := { name := "frameHears", fn := fun _ => fun
  | [d] => { results := [.lit (.bool true)], args := [d] }
  | _ => none }
def frameHearsRow : OpenClaim := { program := "ytkdmdoipjhcmgaa", sum := "2f0cf12f9e53eaf15248c551e923bd7d74cf6eb0ca7dfafbc6b248ed3b015f03", func := "fluxmast/fluxmastlaw02.FrameHears", spec := "frameHears", inPlace := ["math.Float32bits"], unfollowed := true, recurses := true, apart := false }
def FrameHearsSaid : Prop := frameHearsRow.holds Try.pinned (OpenSpec.ofChange frameHearsSpec)

/-- ITS FALSE NEIGHBOUR: 'it returns false'. Refute it at one input. -/
def frameHearsWrong : ChangeSpec := { name := "frameHears", fn := fun _ => fun
  | [d] => { results := [.lit (.bool false)], args := [d] }
  | _ => none }
def FrameHearsWrongFalsely : Prop := frameHearsRow.holds Try.pinned (OpenSpec.ofChange frameHearsWrong)

/- THE SECOND FORM. 'bulk': how many values and letters a reading holds, each counted each time it is reached (what is shared counts as often as it is met; a slice's spare places count too). A statement '..UptoSaid' is the law's where the arguments, and the package variables that the reading takes, are together of bulk at most 1048576: NARROWER than '..Said'. Prove '..Said' where nothing that the law and all that it calls make is longer than what came in: it says more and counts as full. Else prove '..UptoSaid'. A law counts once. -/
mutual
def uptoBulk {H : Type} : DataW H → Nat
  | .lit (.string bytes) => bytes.length + 1
  | .lit _ => 1
  | .nil => 1
  | .ptr d => uptoBulk d + 1
  | .slice elems spare => uptoBulkAll elems + uptoBulkAll spare + 1
  | .agg parts => uptoBulkAll parts + 1
  | .iface _ d => uptoBulk d + 1
  | .map entries => uptoBulkEntries entries + 1
  | .held _ => 1
def uptoBulkAll {H : Type} : List (DataW H) → Nat
  | [] => 0
  | d :: r => uptoBulk d + uptoBulkAll r
def uptoBulkEntries {H : Type} : List (Lit × DataW H) → Nat
  | [] => 0
  | x :: r => uptoBulkEntry x + uptoBulkEntries r
def uptoBulkEntry {H : Type} : Lit × DataW H → Nat
  | (.string bytes, d) => bytes.length + uptoBulk d + 1
  | (_, d) => uptoBulk d + 1
 end
def uptoSmall : (H : Type) → List (DataW H) → Bool := fun _ ds => decide (uptoBulkAll ds ≤ 1048576)
def OpenSpec.upto (s : _root_.Go.ChangeSpec) : _root_.Go.OpenSpec := { _root_.Go.OpenSpec.ofChange s with cond := some uptoSmall }

/-- 'fluxmastlaw02.FrameSeals', WHERE WHAT IT READS IS OF BULK AT MOST 1048576: true; the input reads as it did. -/
def frameSealsUptoRow : OpenClaim := { program := "ytkdmdoipjhcmgaa", sum := "2f0cf12f9e53eaf15248c551e923bd7d74cf6eb0ca7dfafbc6b248ed3b015f03", func := "fluxmast/fluxmastlaw02.FrameSeals", spec := "frameSeals", inPlace := ["math.Float32bits", "math.Float32frombits"], apart := false, narrowed := true }
def FrameSealsUptoSaid : Prop := frameSealsUptoRow.holds Try.pinned (OpenSpec.upto frameSealsSpec)

/-- 'fluxmastlaw02.FrameDigests', WHERE WHAT IT READS IS OF BULK AT MOST 1048576: true; the input reads as it did. -/
def frameDigestsUptoRow : OpenClaim := { program := "ytkdmdoipjhcmgaa", sum := "2f0cf12f9e53eaf15248c551e923bd7d74cf6eb0ca7dfafbc6b248ed3b015f03", func := "fluxmast/fluxmastlaw02.FrameDigests", spec := "frameDigests", inPlace := ["math.Float32bits"], apart := false, narrowed := true }
def FrameDigestsUptoSaid : Prop := frameDigestsUptoRow.holds Try.pinned (OpenSpec.upto frameDigestsSpec)

/-- 'fluxmastlaw02.FrameTimes', WHERE WHAT IT READS IS OF BULK AT MOST 1048576: true; the input reads as it did. -/
def frameTimesUptoRow : OpenClaim := { program := "ytkdmdoipjhcmgaa", sum := "2f0cf12f9e53eaf15248c551e923bd7d74cf6eb0ca7dfafbc6b248ed3b015f03", func := "fluxmast/fluxmastlaw02.FrameTimes", spec := "frameTimes", inPlace := ["math.Float32bits"], apart := false, narrowed := true }
def FrameTimesUptoSaid : Prop := frameTimesUptoRow.holds Try.pinned (OpenSpec.upto frameTimesSpec)

/-- 'fluxmastlaw02.FrameBoards', WHERE WHAT IT READS IS OF BULK AT MOST 1048576: true; the input reads as it did. -/
def frameBoardsUptoRow : OpenClaim := { program := "ytkdmdoipjhcmgaa", sum := "2f0cf12f9e53eaf15248c551e923bd7d74cf6eb0ca7dfafbc6b248ed3b015f03", func := "fluxmast/fluxmastlaw02.FrameBoards", spec := "frameBoards", inPlace := ["math.Float32bits"], unfollowed := true, recurses := true, apart := false, narrowed := true }
def FrameBoardsUptoSaid : Prop := frameBoardsUptoRow.holds Try.pinned (OpenSpec.upto frameBoardsSpec)

/-- 'fluxmastlaw02.FrameTrue', WHERE WHAT IT READS IS OF BULK AT MOST 1048576: true; the input reads as it did. -/
def frameTrueUptoRow : OpenClaim := { program := "ytkdmdoipjhcmgaa", sum := "2f0cf12f9e53eaf15248c551e923bd7d74cf6eb0ca7dfafbc6b248ed3b015f03", func := "fluxmast/fluxmastlaw02.FrameTrue", spec := "frameTrue", inPlace := ["math.Float32bits"], unfollowed := true, recurses := true, apart := false, narrowed := true }
def FrameTrueUptoSaid : Prop := frameTrueUptoRow.holds Try.pinned (OpenSpec.upto frameTrueSpec)

/-- 'fluxmastlaw02.FrameHears', WHERE WHAT IT READS IS OF BULK AT MOST 1048576: true; the input reads as it did. -/
def frameHearsUptoRow : OpenClaim := { program := "ytkdmdoipjhcmgaa", sum := "2f0cf12f9e53eaf15248c551e923bd7d74cf6eb0ca7dfafbc6b248ed3b015f03", func := "fluxmast/fluxmastlaw02.FrameHears", spec := "frameHears", inPlace := ["math.Float32bits"], unfollowed := true, recurses := true, apart := false, narrowed := true }
def FrameHearsUptoSaid : Prop := frameHearsUptoRow.holds Try.pinned (OpenSpec.upto frameHearsSpec)

end Rows
end Go.Proofs.Ytkdmdoipjhcmgaa
