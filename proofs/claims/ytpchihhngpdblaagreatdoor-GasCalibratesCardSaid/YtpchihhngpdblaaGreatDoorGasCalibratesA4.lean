/- GasCalibrates: runs. -/
import Derived.Test.YtpchihhngpdblaaGreatDoorGasCalibratesA0
namespace Go.Proofs.YtpchihhngpdblaaGreatDoor.gasCalibrates
open Go.ChangeShapes Go.WideShapes Go.ChangeAt Go.RowKit
set_option maxRecDepth 100000
theorem run_fttt : (part the [false, true, true, true]).allYes = true := by kernel_rfl
theorem run_ftftt : (part the [false, true, false, true, true]).allYes = true := by kernel_rfl
theorem run_tftftt : (part the [true, false, true, false, true, true]).allYes = true := by kernel_rfl
theorem run_fttfff : (part the [false, true, true, false, false, false]).allYes = true := by kernel_rfl
theorem run_tttftff : (part the [true, true, true, false, true, false, false]).allYes = true := by kernel_rfl
theorem run_ttttftt : (part the [true, true, true, true, false, true, true]).allYes = true := by kernel_rfl
theorem run_tfttfff : (part the [true, false, true, true, false, false, false]).allYes = true := by kernel_rfl
theorem run_ftfftft : (part the [false, true, false, false, true, false, true]).allYes = true := by kernel_rfl
theorem run_tttfftft : (part the [true, true, true, false, false, true, false, true]).allYes = true := by kernel_rfl
theorem run_tftfftft : (part the [true, false, true, false, false, true, false, true]).allYes = true := by kernel_rfl
theorem fork_ftf : forkAt (part the [false, true, false]) = true := by kernel_rfl
theorem fork_ftft : forkAt (part the [false, true, false, true]) = true := by kernel_rfl
theorem fork_fttff : forkAt (part the [false, true, true, false, false]) = true := by kernel_rfl
theorem fork_tf : forkAt (part the [true, false]) = true := by kernel_rfl
theorem fork_tftfft : forkAt (part the [true, false, true, false, false, true]) = true := by kernel_rfl
theorem fork_tftt : forkAt (part the [true, false, true, true]) = true := by kernel_rfl
theorem fork_tfttft : forkAt (part the [true, false, true, true, false, true]) = true := by kernel_rfl
theorem fork_tttff : forkAt (part the [true, true, true, false, false]) = true := by kernel_rfl
theorem fork_tttftf : forkAt (part the [true, true, true, false, true, false]) = true := by kernel_rfl
theorem fork_ttttfft : forkAt (part the [true, true, true, true, false, false, true]) = true := by kernel_rfl
end Go.Proofs.YtpchihhngpdblaaGreatDoor.gasCalibrates
