/- EddyGrades: runs. -/
import Derived.Test.YtafckcmieepmaaaGreatDoorEddyGradesA0
namespace Go.Proofs.YtafckcmieepmaaaGreatDoor.eddyGrades
open Go.ChangeShapes Go.WideShapes Go.ChangeAt Go.RowKit
set_option maxRecDepth 100000
theorem run_fft : (part the [false, false, true]).allYes = true := by kernel_rfl
theorem run_fffffft : (part the [false, false, false, false, false, false, true]).allYes = true := by kernel_rfl
theorem run_fffffffffft : (part the [false, false, false, false, false, false, false, false, false, false, true]).allYes = true := by kernel_rfl
theorem run_fffffffffffffft : (part the [false, false, false, false, false, false, false, false, false, false, false, false, false, false, true]).allYes = true := by kernel_rfl
theorem run_fffffffffffffffffft : (part the [false, false, false, false, false, false, false, false, false, false, false, false, false, false, false, false, false, false, true]).allYes = true := by kernel_rfl
theorem run_fffffffffffffffffffffftt : (part the [false, false, false, false, false, false, false, false, false, false, false, false, false, false, false, false, false, false, false, false, false, false, true, true]).allYes = true := by kernel_rfl
theorem run_fffffffffffffffffffftfff : (part the [false, false, false, false, false, false, false, false, false, false, false, false, false, false, false, false, false, false, false, false, true, false, false, false]).allYes = true := by kernel_rfl
theorem run_ffffffffffffffffffffftttf : (part the [false, false, false, false, false, false, false, false, false, false, false, false, false, false, false, false, false, false, false, false, false, true, true, true, false]).allYes = true := by kernel_rfl
theorem run_ffffffffffffffffffffttftf : (part the [false, false, false, false, false, false, false, false, false, false, false, false, false, false, false, false, false, false, false, false, true, true, false, true, false]).allYes = true := by kernel_rfl
theorem run_ffffffffffffffffffffttttf : (part the [false, false, false, false, false, false, false, false, false, false, false, false, false, false, false, false, false, false, false, false, true, true, true, true, false]).allYes = true := by kernel_rfl
theorem fork_fff : forkAt (part the [false, false, false]) = true := by kernel_rfl
theorem fork_fffffff : forkAt (part the [false, false, false, false, false, false, false]) = true := by kernel_rfl
theorem fork_fffffffffff : forkAt (part the [false, false, false, false, false, false, false, false, false, false, false]) = true := by kernel_rfl
theorem fork_fffffffffffffff : forkAt (part the [false, false, false, false, false, false, false, false, false, false, false, false, false, false, false]) = true := by kernel_rfl
theorem fork_fffffffffffffffffff : forkAt (part the [false, false, false, false, false, false, false, false, false, false, false, false, false, false, false, false, false, false, false]) = true := by kernel_rfl
theorem fork_fffffffffffffffffffffft : forkAt (part the [false, false, false, false, false, false, false, false, false, false, false, false, false, false, false, false, false, false, false, false, false, false, true]) = true := by kernel_rfl
theorem fork_fffffffffffffffffffffttt : forkAt (part the [false, false, false, false, false, false, false, false, false, false, false, false, false, false, false, false, false, false, false, false, false, true, true, true]) = true := by kernel_rfl
theorem fork_fffffffffffffffffffftft : forkAt (part the [false, false, false, false, false, false, false, false, false, false, false, false, false, false, false, false, false, false, false, false, true, false, true]) = true := by kernel_rfl
theorem fork_ffffffffffffffffffffttft : forkAt (part the [false, false, false, false, false, false, false, false, false, false, false, false, false, false, false, false, false, false, false, false, true, true, false, true]) = true := by kernel_rfl
theorem fork_ffffffffffffffffffffttttt : forkAt (part the [false, false, false, false, false, false, false, false, false, false, false, false, false, false, false, false, false, false, false, false, true, true, true, true, true]) = true := by kernel_rfl
end Go.Proofs.YtafckcmieepmaaaGreatDoor.eddyGrades
