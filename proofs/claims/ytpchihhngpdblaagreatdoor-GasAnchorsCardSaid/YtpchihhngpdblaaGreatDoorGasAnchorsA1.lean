/- GasAnchors: a run. -/
import Derived.Test.YtpchihhngpdblaaGreatDoorGasAnchorsA0
namespace Go.Proofs.YtpchihhngpdblaaGreatDoor.gasAnchors
open Go.ChangeShapes Go.WideShapes Go.ChangeAt Go.RowKit
set_option maxRecDepth 100000
theorem runA : VM.simp true ((lawR 60 20 6 (VM.avsOf args 0) (VM.stOf (VM.rngsOf args))).ans) (VM.ssK (VM.rngsOf args) kA) = rt := by kernel_rfl
end Go.Proofs.YtpchihhngpdblaaGreatDoor.gasAnchors
