/-
  No cell of these rows narrows 'for every input' (looked for: loops, veiled, ifaces, maps, wideKeys, modest, calm, conditions, laid).
  DERIVED. THE GIVEN ROWS OF THIS SEAT. 10 by the template 'for every input the law returns true; each argument reads behind the call as it read before'; 0 by the template 'total and deterministic' (their statements: YtjahaljdfpengaaTotals.lean).
  GIVEN WITH THE SEED: the statements are not yours to turn. If you find one false, say at which input.
  Laid BY PROGRAM, IN A SANDBOX (cutbox-rows.mjs): the forced cells as the released guide's own fill.sh prints them over the translation 23cc6b5108d160a4… (all of the seat's roots in one cut). By AI agents, Wed Nov 11 2026. No macro, syntax, notation, axiom, sorry.
-/
import Derived.Test.YtjahaljdfpengaaChecked
import GoSem.Claim
import GoSem.ClaimJoined
import GoSem.ClaimMapViews
import Derived.JoinedTies
import Derived.KernelRfl
namespace Go.Proofs.Ytjahaljdfpengaa
/- THE CELL 'sum', in the pinned program and in every row, IS THE sha256 OF THE DUMP (.gsa) THAT YtjahaljdfpengaaProg.lean LOADS. Nothing in Lean hashes anything: it is a label: what it is worth is what the hold of that sum in a sandbox is worth. -/
noncomputable def Try.pinned : Pinned := { name := "ytjahaljdfpengaa", sum := "23cc6b5108d160a486997b3ca9752f3ccd3521c08a22e81b885834c30d2aa3be", checked := Try.checked }
namespace Rows
def none {H : Type} : Left H := { results := [], args := [] }

/-- 'fluxmastlaw02.FrameSeals': WHATEVER THE INPUT: true; the input reads as it did. -/
def frameSealsSpec : ChangeSpec := { name := "frameSeals", fn := fun _ => fun
  | [d1, d2, d3, d4] => { results := [.lit (.bool true)], args := [d1, d2, d3, d4] }
  | _ => none }
def frameSealsRow : OpenClaim := { program := "ytjahaljdfpengaa", sum := "23cc6b5108d160a486997b3ca9752f3ccd3521c08a22e81b885834c30d2aa3be", func := "fluxmast/fluxmastlaw02.FrameSeals", spec := "frameSeals", inPlace := ["math.Float32bits", "math.Float32frombits"], apart := false }
def FrameSealsSaid : Prop := frameSealsRow.holds Try.pinned (OpenSpec.ofChange frameSealsSpec)

/-- ITS FALSE NEIGHBOUR: 'it returns false'. Refute it at one input. -/
def frameSealsWrong : ChangeSpec := { name := "frameSeals", fn := fun _ => fun
  | [d1, d2, d3, d4] => { results := [.lit (.bool false)], args := [d1, d2, d3, d4] }
  | _ => none }
def FrameSealsWrongFalsely : Prop := frameSealsRow.holds Try.pinned (OpenSpec.ofChange frameSealsWrong)

/-- 'fluxmastlaw02.FrameBoards': WHATEVER THE INPUT: true; the input reads as it did. -/
def frameBoardsSpec : ChangeSpec := { name := "frameBoards", fn := fun _ => fun
  | [d] => { results := [.lit (.bool true)], args := [d] }
  | _ => none }
def frameBoardsRow : OpenClaim := { program := "ytjahaljdfpengaa", sum := "23cc6b5108d160a486997b3ca9752f3ccd3521c08a22e81b885834c30d2aa3be", func := "fluxmast/fluxmastlaw02.FrameBoards", spec := "frameBoards", inPlace := ["math.Float32bits"], unfollowed := true, recurses := true, apart := false }
def FrameBoardsSaid : Prop := frameBoardsRow.holds Try.pinned (OpenSpec.ofChange frameBoardsSpec)

/-- ITS FALSE NEIGHBOUR: 'it returns false'. Refute it at one input. -/
def frameBoardsWrong : ChangeSpec := { name := "frameBoards", fn := fun _ => fun
  | [d] => { results := [.lit (.bool false)], args := [d] }
  | _ => none }
def FrameBoardsWrongFalsely : Prop := frameBoardsRow.holds Try.pinned (OpenSpec.ofChange frameBoardsWrong)

/-- 'fluxmastlaw02.FrameHears': WHATEVER THE INPUT: true; the input reads as it did. -/
def frameHearsSpec : ChangeSpec := { name := "frameHears", fn := fun _ => fun
  | [d] => { results := [.lit (.bool true)], args := [d] }
  | _ => none }
def frameHearsRow : OpenClaim := { program := "ytjahaljdfpengaa", sum := "23cc6b5108d160a486997b3ca9752f3ccd3521c08a22e81b885834c30d2aa3be", func := "fluxmast/fluxmastlaw02.FrameHears", spec := "frameHears", inPlace := ["math.Float32bits"], unfollowed := true, recurses := true, apart := false }
def FrameHearsSaid : Prop := frameHearsRow.holds Try.pinned (OpenSpec.ofChange frameHearsSpec)

/-- ITS FALSE NEIGHBOUR: 'it returns false'. Refute it at one input. -/
def frameHearsWrong : ChangeSpec := { name := "frameHears", fn := fun _ => fun
  | [d] => { results := [.lit (.bool false)], args := [d] }
  | _ => none }
def FrameHearsWrongFalsely : Prop := frameHearsRow.holds Try.pinned (OpenSpec.ofChange frameHearsWrong)

/-- 'fluxmastlaw02.FrameTold': WHATEVER THE INPUT: true; the input reads as it did. -/
def frameToldSpec : ChangeSpec := { name := "frameTold", fn := fun _ => fun
  | [d] => { results := [.lit (.bool true)], args := [d] }
  | _ => none }
def frameToldRow : OpenClaim := { program := "ytjahaljdfpengaa", sum := "23cc6b5108d160a486997b3ca9752f3ccd3521c08a22e81b885834c30d2aa3be", func := "fluxmast/fluxmastlaw02.FrameTold", spec := "frameTold", inPlace := ["math.Float32bits", "slices.overlaps[fluxmast/api.Gap]"], unfollowed := true, recurses := true, apart := false }
def FrameToldSaid : Prop := frameToldRow.holds Try.pinned (OpenSpec.ofChange frameToldSpec)

/-- ITS FALSE NEIGHBOUR: 'it returns false'. Refute it at one input. -/
def frameToldWrong : ChangeSpec := { name := "frameTold", fn := fun _ => fun
  | [d] => { results := [.lit (.bool false)], args := [d] }
  | _ => none }
def FrameToldWrongFalsely : Prop := frameToldRow.holds Try.pinned (OpenSpec.ofChange frameToldWrong)

/-- 'fluxmastlaw02.FrameLoggers': WHATEVER THE INPUT: true; the input reads as it did. -/
def frameLoggersSpec : ChangeSpec := { name := "frameLoggers", fn := fun _ => fun
  | [d1, d2, d3] => { results := [.lit (.bool true)], args := [d1, d2, d3] }
  | _ => none }
def frameLoggersRow : OpenClaim := { program := "ytjahaljdfpengaa", sum := "23cc6b5108d160a486997b3ca9752f3ccd3521c08a22e81b885834c30d2aa3be", func := "fluxmast/fluxmastlaw02.FrameLoggers", spec := "frameLoggers", inPlace := ["math.Float32bits", "slices.overlaps[fluxmast/api.Gap]"], unfollowed := true, recurses := true, apart := false }
def FrameLoggersSaid : Prop := frameLoggersRow.holds Try.pinned (OpenSpec.ofChange frameLoggersSpec)

/-- ITS FALSE NEIGHBOUR: 'it returns false'. Refute it at one input. -/
def frameLoggersWrong : ChangeSpec := { name := "frameLoggers", fn := fun _ => fun
  | [d1, d2, d3] => { results := [.lit (.bool false)], args := [d1, d2, d3] }
  | _ => none }
def FrameLoggersWrongFalsely : Prop := frameLoggersRow.holds Try.pinned (OpenSpec.ofChange frameLoggersWrong)

/-- 'fluxmastlaw02.FrameMisses': WHATEVER THE INPUT: true; the input reads as it did. -/
def frameMissesSpec : ChangeSpec := { name := "frameMisses", fn := fun _ => fun
  | [d1, d2, d3] => { results := [.lit (.bool true)], args := [d1, d2, d3] }
  | _ => none }
def frameMissesRow : OpenClaim := { program := "ytjahaljdfpengaa", sum := "23cc6b5108d160a486997b3ca9752f3ccd3521c08a22e81b885834c30d2aa3be", func := "fluxmast/fluxmastlaw02.FrameMisses", spec := "frameMisses", inPlace := ["math.Float32bits", "math.Float32frombits", "internal/bytealg.Compare"], unfollowed := true, recurses := true, apart := false }
def FrameMissesSaid : Prop := frameMissesRow.holds Try.pinned (OpenSpec.ofChange frameMissesSpec)

/-- ITS FALSE NEIGHBOUR: 'it returns false'. Refute it at one input. -/
def frameMissesWrong : ChangeSpec := { name := "frameMisses", fn := fun _ => fun
  | [d1, d2, d3] => { results := [.lit (.bool false)], args := [d1, d2, d3] }
  | _ => none }
def FrameMissesWrongFalsely : Prop := frameMissesRow.holds Try.pinned (OpenSpec.ofChange frameMissesWrong)

/-- 'fluxmastlaw02.FrameRecords': WHATEVER THE INPUT: true; the input reads as it did. -/
def frameRecordsSpec : ChangeSpec := { name := "frameRecords", fn := fun _ => fun
  | [d1, d2] => { results := [.lit (.bool true)], args := [d1, d2] }
  | _ => none }
def frameRecordsRow : OpenClaim := { program := "ytjahaljdfpengaa", sum := "23cc6b5108d160a486997b3ca9752f3ccd3521c08a22e81b885834c30d2aa3be", func := "fluxmast/fluxmastlaw02.FrameRecords", spec := "frameRecords", inPlace := ["math.Float32bits", "math.Float32frombits", "internal/bytealg.Compare"], unfollowed := true, recurses := true, apart := false }
def FrameRecordsSaid : Prop := frameRecordsRow.holds Try.pinned (OpenSpec.ofChange frameRecordsSpec)

/-- ITS FALSE NEIGHBOUR: 'it returns false'. Refute it at one input. -/
def frameRecordsWrong : ChangeSpec := { name := "frameRecords", fn := fun _ => fun
  | [d1, d2] => { results := [.lit (.bool false)], args := [d1, d2] }
  | _ => none }
def FrameRecordsWrongFalsely : Prop := frameRecordsRow.holds Try.pinned (OpenSpec.ofChange frameRecordsWrong)

/-- 'fluxmastlaw02.FrameJoins': WHATEVER THE INPUT: true; the input reads as it did. -/
def frameJoinsSpec : ChangeSpec := { name := "frameJoins", fn := fun _ => fun
  | [d1, d2, d3] => { results := [.lit (.bool true)], args := [d1, d2, d3] }
  | _ => none }
def frameJoinsRow : OpenClaim := { program := "ytjahaljdfpengaa", sum := "23cc6b5108d160a486997b3ca9752f3ccd3521c08a22e81b885834c30d2aa3be", func := "fluxmast/fluxmastlaw02.FrameJoins", spec := "frameJoins", inPlace := ["math.Float32bits", "math.Float32frombits", "internal/bytealg.Compare"], unfollowed := true, recurses := true, apart := false }
def FrameJoinsSaid : Prop := frameJoinsRow.holds Try.pinned (OpenSpec.ofChange frameJoinsSpec)

/-- ITS FALSE NEIGHBOUR: 'it returns false'. Refute it at one input. -/
def frameJoinsWrong : ChangeSpec := { name := "frameJoins", fn := fun _ => fun
  | [d1, d2, d3] => { results := [.lit (.bool false)], args := [d1, d2, d3] }
  | _ => none }
def FrameJoinsWrongFalsely : Prop := frameJoinsRow.holds Try.pinned (OpenSpec.ofChange frameJoinsWrong)

/-- 'fluxmastlaw02.FrameUnion': WHATEVER THE INPUT: true; the input reads as it did. -/
def frameUnionSpec : ChangeSpec := { name := "frameUnion", fn := fun _ => fun
  | [d1, d2, d3] => { results := [.lit (.bool true)], args := [d1, d2, d3] }
  | _ => none }
def frameUnionRow : OpenClaim := { program := "ytjahaljdfpengaa", sum := "23cc6b5108d160a486997b3ca9752f3ccd3521c08a22e81b885834c30d2aa3be", func := "fluxmast/fluxmastlaw02.FrameUnion", spec := "frameUnion", inPlace := ["math.Float32bits", "math.Float32frombits", "internal/bytealg.Compare"], unfollowed := true, recurses := true, apart := false }
def FrameUnionSaid : Prop := frameUnionRow.holds Try.pinned (OpenSpec.ofChange frameUnionSpec)

/-- ITS FALSE NEIGHBOUR: 'it returns false'. Refute it at one input. -/
def frameUnionWrong : ChangeSpec := { name := "frameUnion", fn := fun _ => fun
  | [d1, d2, d3] => { results := [.lit (.bool false)], args := [d1, d2, d3] }
  | _ => none }
def FrameUnionWrongFalsely : Prop := frameUnionRow.holds Try.pinned (OpenSpec.ofChange frameUnionWrong)

/-- 'fluxmastlaw02.FrameGaps': WHATEVER THE INPUT: true; the input reads as it did. -/
def frameGapsSpec : ChangeSpec := { name := "frameGaps", fn := fun _ => fun
  | [d1, d2] => { results := [.lit (.bool true)], args := [d1, d2] }
  | _ => none }
def frameGapsRow : OpenClaim := { program := "ytjahaljdfpengaa", sum := "23cc6b5108d160a486997b3ca9752f3ccd3521c08a22e81b885834c30d2aa3be", func := "fluxmast/fluxmastlaw02.FrameGaps", spec := "frameGaps", inPlace := ["math.Float32bits", "math.Float32frombits", "internal/bytealg.Compare"], unfollowed := true, recurses := true, apart := false }
def FrameGapsSaid : Prop := frameGapsRow.holds Try.pinned (OpenSpec.ofChange frameGapsSpec)

/-- ITS FALSE NEIGHBOUR: 'it returns false'. Refute it at one input. -/
def frameGapsWrong : ChangeSpec := { name := "frameGaps", fn := fun _ => fun
  | [d1, d2] => { results := [.lit (.bool false)], args := [d1, d2] }
  | _ => none }
def FrameGapsWrongFalsely : Prop := frameGapsRow.holds Try.pinned (OpenSpec.ofChange frameGapsWrong)

/- THE SECOND FORM. 'bulk': how many values and letters a reading holds, each counted each time it is reached (what is shared counts as often as it is met; a slice's spare places count too). A statement '..UptoSaid' is the law's where the arguments, and the package variables that the reading takes, are together of bulk at most 1048576: NARROWER than '..Said'. Prove '..Said' where nothing that the law and all that it calls make is longer than what came in: it says more and counts as full. Else prove '..UptoSaid'. A law counts once. -/
mutual
def uptoBulk {H : Type} : DataW H → Nat
  | .lit (.string bytes) => bytes.length + 1
  | .lit _ => 1
  | .nil => 1
  | .ptr d => uptoBulk d + 1
  | .slice elems spare => uptoBulkAll elems + uptoBulkAll spare + 1
  | .agg parts => uptoBulkAll parts + 1
  | .iface _ d => uptoBulk d + 1
  | .map entries => uptoBulkEntries entries + 1
  | .held _ => 1
def uptoBulkAll {H : Type} : List (DataW H) → Nat
  | [] => 0
  | d :: r => uptoBulk d + uptoBulkAll r
def uptoBulkEntries {H : Type} : List (Lit × DataW H) → Nat
  | [] => 0
  | x :: r => uptoBulkEntry x + uptoBulkEntries r
def uptoBulkEntry {H : Type} : Lit × DataW H → Nat
  | (.string bytes, d) => bytes.length + uptoBulk d + 1
  | (_, d) => uptoBulk d + 1
 end
def uptoSmall : (H : Type) → List (DataW H) → Bool := fun _ ds => decide (uptoBulkAll ds ≤ 1048576)
def OpenSpec.upto (s : _root_.Go.ChangeSpec) : _root_.Go.OpenSpec := { _root_.Go.OpenSpec.ofChange s with cond := some uptoSmall }

/-- 'fluxmastlaw02.FrameSeals', WHERE WHAT IT READS IS OF BULK AT MOST 1048576: true; the input reads as it did. -/
def frameSealsUptoRow : OpenClaim := { program := "ytjahaljdfpengaa", sum := "23cc6b5108d160a486997b3ca9752f3ccd3521c08a22e81b885834c30d2aa3be", func := "fluxmast/fluxmastlaw02.FrameSeals", spec := "frameSeals", inPlace := ["math.Float32bits", "math.Float32frombits"], apart := false, narrowed := true }
def FrameSealsUptoSaid : Prop := frameSealsUptoRow.holds Try.pinned (OpenSpec.upto frameSealsSpec)

/-- 'fluxmastlaw02.FrameBoards', WHERE WHAT IT READS IS OF BULK AT MOST 1048576: true; the input reads as it did. -/
def frameBoardsUptoRow : OpenClaim := { program := "ytjahaljdfpengaa", sum := "23cc6b5108d160a486997b3ca9752f3ccd3521c08a22e81b885834c30d2aa3be", func := "fluxmast/fluxmastlaw02.FrameBoards", spec := "frameBoards", inPlace := ["math.Float32bits"], unfollowed := true, recurses := true, apart := false, narrowed := true }
def FrameBoardsUptoSaid : Prop := frameBoardsUptoRow.holds Try.pinned (OpenSpec.upto frameBoardsSpec)

/-- 'fluxmastlaw02.FrameHears', WHERE WHAT IT READS IS OF BULK AT MOST 1048576: true; the input reads as it did. -/
def frameHearsUptoRow : OpenClaim := { program := "ytjahaljdfpengaa", sum := "23cc6b5108d160a486997b3ca9752f3ccd3521c08a22e81b885834c30d2aa3be", func := "fluxmast/fluxmastlaw02.FrameHears", spec := "frameHears", inPlace := ["math.Float32bits"], unfollowed := true, recurses := true, apart := false, narrowed := true }
def FrameHearsUptoSaid : Prop := frameHearsUptoRow.holds Try.pinned (OpenSpec.upto frameHearsSpec)

/-- 'fluxmastlaw02.FrameTold', WHERE WHAT IT READS IS OF BULK AT MOST 1048576: true; the input reads as it did. -/
def frameToldUptoRow : OpenClaim := { program := "ytjahaljdfpengaa", sum := "23cc6b5108d160a486997b3ca9752f3ccd3521c08a22e81b885834c30d2aa3be", func := "fluxmast/fluxmastlaw02.FrameTold", spec := "frameTold", inPlace := ["math.Float32bits", "slices.overlaps[fluxmast/api.Gap]"], unfollowed := true, recurses := true, apart := false, narrowed := true }
def FrameToldUptoSaid : Prop := frameToldUptoRow.holds Try.pinned (OpenSpec.upto frameToldSpec)

/-- 'fluxmastlaw02.FrameLoggers', WHERE WHAT IT READS IS OF BULK AT MOST 1048576: true; the input reads as it did. -/
def frameLoggersUptoRow : OpenClaim := { program := "ytjahaljdfpengaa", sum := "23cc6b5108d160a486997b3ca9752f3ccd3521c08a22e81b885834c30d2aa3be", func := "fluxmast/fluxmastlaw02.FrameLoggers", spec := "frameLoggers", inPlace := ["math.Float32bits", "slices.overlaps[fluxmast/api.Gap]"], unfollowed := true, recurses := true, apart := false, narrowed := true }
def FrameLoggersUptoSaid : Prop := frameLoggersUptoRow.holds Try.pinned (OpenSpec.upto frameLoggersSpec)

/-- 'fluxmastlaw02.FrameMisses', WHERE WHAT IT READS IS OF BULK AT MOST 1048576: true; the input reads as it did. -/
def frameMissesUptoRow : OpenClaim := { program := "ytjahaljdfpengaa", sum := "23cc6b5108d160a486997b3ca9752f3ccd3521c08a22e81b885834c30d2aa3be", func := "fluxmast/fluxmastlaw02.FrameMisses", spec := "frameMisses", inPlace := ["math.Float32bits", "math.Float32frombits", "internal/bytealg.Compare"], unfollowed := true, recurses := true, apart := false, narrowed := true }
def FrameMissesUptoSaid : Prop := frameMissesUptoRow.holds Try.pinned (OpenSpec.upto frameMissesSpec)

/-- 'fluxmastlaw02.FrameRecords', WHERE WHAT IT READS IS OF BULK AT MOST 1048576: true; the input reads as it did. -/
def frameRecordsUptoRow : OpenClaim := { program := "ytjahaljdfpengaa", sum := "23cc6b5108d160a486997b3ca9752f3ccd3521c08a22e81b885834c30d2aa3be", func := "fluxmast/fluxmastlaw02.FrameRecords", spec := "frameRecords", inPlace := ["math.Float32bits", "math.Float32frombits", "internal/bytealg.Compare"], unfollowed := true, recurses := true, apart := false, narrowed := true }
def FrameRecordsUptoSaid : Prop := frameRecordsUptoRow.holds Try.pinned (OpenSpec.upto frameRecordsSpec)

/-- 'fluxmastlaw02.FrameJoins', WHERE WHAT IT READS IS OF BULK AT MOST 1048576: true; the input reads as it did. -/
def frameJoinsUptoRow : OpenClaim := { program := "ytjahaljdfpengaa", sum := "23cc6b5108d160a486997b3ca9752f3ccd3521c08a22e81b885834c30d2aa3be", func := "fluxmast/fluxmastlaw02.FrameJoins", spec := "frameJoins", inPlace := ["math.Float32bits", "math.Float32frombits", "internal/bytealg.Compare"], unfollowed := true, recurses := true, apart := false, narrowed := true }
def FrameJoinsUptoSaid : Prop := frameJoinsUptoRow.holds Try.pinned (OpenSpec.upto frameJoinsSpec)

/-- 'fluxmastlaw02.FrameUnion', WHERE WHAT IT READS IS OF BULK AT MOST 1048576: true; the input reads as it did. -/
def frameUnionUptoRow : OpenClaim := { program := "ytjahaljdfpengaa", sum := "23cc6b5108d160a486997b3ca9752f3ccd3521c08a22e81b885834c30d2aa3be", func := "fluxmast/fluxmastlaw02.FrameUnion", spec := "frameUnion", inPlace := ["math.Float32bits", "math.Float32frombits", "internal/bytealg.Compare"], unfollowed := true, recurses := true, apart := false, narrowed := true }
def FrameUnionUptoSaid : Prop := frameUnionUptoRow.holds Try.pinned (OpenSpec.upto frameUnionSpec)

/-- 'fluxmastlaw02.FrameGaps', WHERE WHAT IT READS IS OF BULK AT MOST 1048576: true; the input reads as it did. -/
def frameGapsUptoRow : OpenClaim := { program := "ytjahaljdfpengaa", sum := "23cc6b5108d160a486997b3ca9752f3ccd3521c08a22e81b885834c30d2aa3be", func := "fluxmast/fluxmastlaw02.FrameGaps", spec := "frameGaps", inPlace := ["math.Float32bits", "math.Float32frombits", "internal/bytealg.Compare"], unfollowed := true, recurses := true, apart := false, narrowed := true }
def FrameGapsUptoSaid : Prop := frameGapsUptoRow.holds Try.pinned (OpenSpec.upto frameGapsSpec)

end Rows
end Go.Proofs.Ytjahaljdfpengaa
