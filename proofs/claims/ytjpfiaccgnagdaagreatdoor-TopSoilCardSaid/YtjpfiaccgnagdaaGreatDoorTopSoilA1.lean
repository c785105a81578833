/- TopSoil: runs. -/
import Derived.Test.YtjpfiaccgnagdaaGreatDoorTopSoilA0
namespace Go.Proofs.YtjpfiaccgnagdaaGreatDoor.topSoil
open Go.ChangeShapes Go.WideShapes Go.ChangeAt Go.RowKit
set_option maxRecDepth 100000
theorem run_f : (part the [false]).allYes = true := by kernel_rfl
theorem run_ttttf : (part the [true, true, true, true, false]).allYes = true := by kernel_rfl
theorem fork_ : forkAt (part the []) = true := by kernel_rfl
theorem fork_tttt : forkAt (part the [true, true, true, true]) = true := by kernel_rfl
end Go.Proofs.YtjpfiaccgnagdaaGreatDoor.topSoil
