/- EddyGrades: runs. -/
import Derived.Test.YtafckcmieepmaaaGreatDoorEddyGradesA0
namespace Go.Proofs.YtafckcmieepmaaaGreatDoor.eddyGrades
open Go.ChangeShapes Go.WideShapes Go.ChangeAt Go.RowKit
set_option maxRecDepth 100000
theorem run_tf : (part the [true, false]).allYes = true := by kernel_rfl
theorem run_fffft : (part the [false, false, false, false, true]).allYes = true := by kernel_rfl
theorem run_fffffffft : (part the [false, false, false, false, false, false, false, false, true]).allYes = true := by kernel_rfl
theorem run_fffffffffffft : (part the [false, false, false, false, false, false, false, false, false, false, false, false, true]).allYes = true := by kernel_rfl
theorem run_fffffffffffffffft : (part the [false, false, false, false, false, false, false, false, false, false, false, false, false, false, false, false, true]).allYes = true := by kernel_rfl
theorem run_fffffffffffffffffffffff : (part the [false, false, false, false, false, false, false, false, false, false, false, false, false, false, false, false, false, false, false, false, false, false, false]).allYes = true := by kernel_rfl
theorem run_ffffffffffffffffffffftft : (part the [false, false, false, false, false, false, false, false, false, false, false, false, false, false, false, false, false, false, false, false, false, true, false, true]).allYes = true := by kernel_rfl
theorem run_fffffffffffffffffffftftf : (part the [false, false, false, false, false, false, false, false, false, false, false, false, false, false, false, false, false, false, false, false, true, false, true, false]).allYes = true := by kernel_rfl
theorem run_fffffffffffffffffffftfttf : (part the [false, false, false, false, false, false, false, false, false, false, false, false, false, false, false, false, false, false, false, false, true, false, true, true, false]).allYes = true := by kernel_rfl
theorem run_fffffffffffffffffffftttff : (part the [false, false, false, false, false, false, false, false, false, false, false, false, false, false, false, false, false, false, false, false, true, true, true, false, false]).allYes = true := by kernel_rfl
theorem run_fffffffffffffffffffftttttt : (part the [false, false, false, false, false, false, false, false, false, false, false, false, false, false, false, false, false, false, false, false, true, true, true, true, true, true]).allYes = true := by kernel_rfl
theorem fork_f : forkAt (part the [false]) = true := by kernel_rfl
theorem fork_fffff : forkAt (part the [false, false, false, false, false]) = true := by kernel_rfl
theorem fork_fffffffff : forkAt (part the [false, false, false, false, false, false, false, false, false]) = true := by kernel_rfl
theorem fork_fffffffffffff : forkAt (part the [false, false, false, false, false, false, false, false, false, false, false, false, false]) = true := by kernel_rfl
theorem fork_fffffffffffffffff : forkAt (part the [false, false, false, false, false, false, false, false, false, false, false, false, false, false, false, false, false]) = true := by kernel_rfl
theorem fork_fffffffffffffffffffff : forkAt (part the [false, false, false, false, false, false, false, false, false, false, false, false, false, false, false, false, false, false, false, false, false]) = true := by kernel_rfl
theorem fork_ffffffffffffffffffffftf : forkAt (part the [false, false, false, false, false, false, false, false, false, false, false, false, false, false, false, false, false, false, false, false, false, true, false]) = true := by kernel_rfl
theorem fork_fffffffffffffffffffftf : forkAt (part the [false, false, false, false, false, false, false, false, false, false, false, false, false, false, false, false, false, false, false, false, true, false]) = true := by kernel_rfl
theorem fork_fffffffffffffffffffftt : forkAt (part the [false, false, false, false, false, false, false, false, false, false, false, false, false, false, false, false, false, false, false, false, true, true]) = true := by kernel_rfl
theorem fork_fffffffffffffffffffftttf : forkAt (part the [false, false, false, false, false, false, false, false, false, false, false, false, false, false, false, false, false, false, false, false, true, true, true, false]) = true := by kernel_rfl
end Go.Proofs.YtafckcmieepmaaaGreatDoor.eddyGrades
