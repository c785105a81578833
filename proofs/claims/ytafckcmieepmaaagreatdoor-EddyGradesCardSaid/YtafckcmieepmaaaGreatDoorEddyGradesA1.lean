/- EddyGrades: runs. -/
import Derived.Test.YtafckcmieepmaaaGreatDoorEddyGradesA0
namespace Go.Proofs.YtafckcmieepmaaaGreatDoor.eddyGrades
open Go.ChangeShapes Go.WideShapes Go.ChangeAt Go.RowKit
set_option maxRecDepth 100000
theorem run_ft : (part the [false, true]).allYes = true := by kernel_rfl
theorem run_ffft : (part the [false, false, false, true]).allYes = true := by kernel_rfl
theorem run_ffffffft : (part the [false, false, false, false, false, false, false, true]).allYes = true := by kernel_rfl
theorem run_ffffffffffft : (part the [false, false, false, false, false, false, false, false, false, false, false, true]).allYes = true := by kernel_rfl
theorem run_ffffffffffffffft : (part the [false, false, false, false, false, false, false, false, false, false, false, false, false, false, false, true]).allYes = true := by kernel_rfl
theorem run_ffffffffffffffffffft : (part the [false, false, false, false, false, false, false, false, false, false, false, false, false, false, false, false, false, false, false, true]).allYes = true := by kernel_rfl
theorem run_ffffffffffffffffffffftff : (part the [false, false, false, false, false, false, false, false, false, false, false, false, false, false, false, false, false, false, false, false, false, true, false, false]).allYes = true := by kernel_rfl
theorem run_fffffffffffffffffffftfft : (part the [false, false, false, false, false, false, false, false, false, false, false, false, false, false, false, false, false, false, false, false, true, false, false, true]).allYes = true := by kernel_rfl
theorem run_ffffffffffffffffffffftttt : (part the [false, false, false, false, false, false, false, false, false, false, false, false, false, false, false, false, false, false, false, false, false, true, true, true, true]).allYes = true := by kernel_rfl
theorem run_ffffffffffffffffffffttftt : (part the [false, false, false, false, false, false, false, false, false, false, false, false, false, false, false, false, false, false, false, false, true, true, false, true, true]).allYes = true := by kernel_rfl
theorem run_fffffffffffffffffffftttttf : (part the [false, false, false, false, false, false, false, false, false, false, false, false, false, false, false, false, false, false, false, false, true, true, true, true, true, false]).allYes = true := by kernel_rfl
theorem fork_ : forkAt (part the []) = true := by kernel_rfl
theorem fork_ffff : forkAt (part the [false, false, false, false]) = true := by kernel_rfl
theorem fork_ffffffff : forkAt (part the [false, false, false, false, false, false, false, false]) = true := by kernel_rfl
theorem fork_ffffffffffff : forkAt (part the [false, false, false, false, false, false, false, false, false, false, false, false]) = true := by kernel_rfl
theorem fork_ffffffffffffffff : forkAt (part the [false, false, false, false, false, false, false, false, false, false, false, false, false, false, false, false]) = true := by kernel_rfl
theorem fork_ffffffffffffffffffff : forkAt (part the [false, false, false, false, false, false, false, false, false, false, false, false, false, false, false, false, false, false, false, false]) = true := by kernel_rfl
theorem fork_ffffffffffffffffffffft : forkAt (part the [false, false, false, false, false, false, false, false, false, false, false, false, false, false, false, false, false, false, false, false, false, true]) = true := by kernel_rfl
theorem fork_fffffffffffffffffffft : forkAt (part the [false, false, false, false, false, false, false, false, false, false, false, false, false, false, false, false, false, false, false, false, true]) = true := by kernel_rfl
theorem fork_fffffffffffffffffffftftt : forkAt (part the [false, false, false, false, false, false, false, false, false, false, false, false, false, false, false, false, false, false, false, false, true, false, true, true]) = true := by kernel_rfl
theorem fork_ffffffffffffffffffffttt : forkAt (part the [false, false, false, false, false, false, false, false, false, false, false, false, false, false, false, false, false, false, false, false, true, true, true]) = true := by kernel_rfl
theorem fork_t : forkAt (part the [true]) = true := by kernel_rfl
end Go.Proofs.YtafckcmieepmaaaGreatDoor.eddyGrades
