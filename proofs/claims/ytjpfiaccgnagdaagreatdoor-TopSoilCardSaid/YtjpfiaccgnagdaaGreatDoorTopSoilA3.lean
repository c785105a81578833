/- TopSoil: runs. -/
import Derived.Test.YtjpfiaccgnagdaaGreatDoorTopSoilA0
namespace Go.Proofs.YtjpfiaccgnagdaaGreatDoor.topSoil
open Go.ChangeShapes Go.WideShapes Go.ChangeAt Go.RowKit
set_option maxRecDepth 100000
theorem run_ttf : (part the [true, true, false]).allYes = true := by kernel_rfl
theorem run_tttttt : (part the [true, true, true, true, true, true]).allYes = true := by kernel_rfl
theorem fork_tt : forkAt (part the [true, true]) = true := by kernel_rfl
end Go.Proofs.YtjpfiaccgnagdaaGreatDoor.topSoil
