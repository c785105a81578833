/- EddyGrades: runs. -/
import Derived.Test.YtafckcmieepmaaaGreatDoorEddyGradesA0
namespace Go.Proofs.YtafckcmieepmaaaGreatDoor.eddyGrades
open Go.ChangeShapes Go.WideShapes Go.ChangeAt Go.RowKit
set_option maxRecDepth 100000
theorem run_tt : (part the [true, true]).allYes = true := by kernel_rfl
theorem run_ffffft : (part the [false, false, false, false, false, true]).allYes = true := by kernel_rfl
theorem run_ffffffffft : (part the [false, false, false, false, false, false, false, false, false, true]).allYes = true := by kernel_rfl
theorem run_ffffffffffffft : (part the [false, false, false, false, false, false, false, false, false, false, false, false, false, true]).allYes = true := by kernel_rfl
theorem run_ffffffffffffffffft : (part the [false, false, false, false, false, false, false, false, false, false, false, false, false, false, false, false, false, true]).allYes = true := by kernel_rfl
theorem run_fffffffffffffffffffffftf : (part the [false, false, false, false, false, false, false, false, false, false, false, false, false, false, false, false, false, false, false, false, false, false, true, false]).allYes = true := by kernel_rfl
theorem run_fffffffffffffffffffffttf : (part the [false, false, false, false, false, false, false, false, false, false, false, false, false, false, false, false, false, false, false, false, false, true, true, false]).allYes = true := by kernel_rfl
theorem run_ffffffffffffffffffffttff : (part the [false, false, false, false, false, false, false, false, false, false, false, false, false, false, false, false, false, false, false, false, true, true, false, false]).allYes = true := by kernel_rfl
theorem run_fffffffffffffffffffftfttt : (part the [false, false, false, false, false, false, false, false, false, false, false, false, false, false, false, false, false, false, false, false, true, false, true, true, true]).allYes = true := by kernel_rfl
theorem run_fffffffffffffffffffftttft : (part the [false, false, false, false, false, false, false, false, false, false, false, false, false, false, false, false, false, false, false, false, true, true, true, false, true]).allYes = true := by kernel_rfl
theorem fork_ff : forkAt (part the [false, false]) = true := by kernel_rfl
theorem fork_ffffff : forkAt (part the [false, false, false, false, false, false]) = true := by kernel_rfl
theorem fork_ffffffffff : forkAt (part the [false, false, false, false, false, false, false, false, false, false]) = true := by kernel_rfl
theorem fork_ffffffffffffff : forkAt (part the [false, false, false, false, false, false, false, false, false, false, false, false, false, false]) = true := by kernel_rfl
theorem fork_ffffffffffffffffff : forkAt (part the [false, false, false, false, false, false, false, false, false, false, false, false, false, false, false, false, false, false]) = true := by kernel_rfl
theorem fork_ffffffffffffffffffffff : forkAt (part the [false, false, false, false, false, false, false, false, false, false, false, false, false, false, false, false, false, false, false, false, false, false]) = true := by kernel_rfl
theorem fork_ffffffffffffffffffffftt : forkAt (part the [false, false, false, false, false, false, false, false, false, false, false, false, false, false, false, false, false, false, false, false, false, true, true]) = true := by kernel_rfl
theorem fork_fffffffffffffffffffftff : forkAt (part the [false, false, false, false, false, false, false, false, false, false, false, false, false, false, false, false, false, false, false, false, true, false, false]) = true := by kernel_rfl
theorem fork_ffffffffffffffffffffttf : forkAt (part the [false, false, false, false, false, false, false, false, false, false, false, false, false, false, false, false, false, false, false, false, true, true, false]) = true := by kernel_rfl
theorem fork_fffffffffffffffffffftttt : forkAt (part the [false, false, false, false, false, false, false, false, false, false, false, false, false, false, false, false, false, false, false, false, true, true, true, true]) = true := by kernel_rfl
end Go.Proofs.YtafckcmieepmaaaGreatDoor.eddyGrades
