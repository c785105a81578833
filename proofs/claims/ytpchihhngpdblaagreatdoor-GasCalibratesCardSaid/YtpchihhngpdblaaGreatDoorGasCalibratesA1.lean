/- GasCalibrates: runs. -/
import Derived.Test.YtpchihhngpdblaaGreatDoorGasCalibratesA0
namespace Go.Proofs.YtpchihhngpdblaaGreatDoor.gasCalibrates
open Go.ChangeShapes Go.WideShapes Go.ChangeAt Go.RowKit
set_option maxRecDepth 100000
theorem run_ff : (part the [false, false]).allYes = true := by kernel_rfl
theorem run_ttttt : (part the [true, true, true, true, true]).allYes = true := by kernel_rfl
theorem run_tttfff : (part the [true, true, true, false, false, false]).allYes = true := by kernel_rfl
theorem run_ftfftt : (part the [false, true, false, false, true, true]).allYes = true := by kernel_rfl
theorem run_fttftf : (part the [false, true, true, false, true, false]).allYes = true := by kernel_rfl
theorem run_tttftft : (part the [true, true, true, false, true, false, true]).allYes = true := by kernel_rfl
theorem run_tftfftt : (part the [true, false, true, false, false, true, true]).allYes = true := by kernel_rfl
theorem run_tfttftf : (part the [true, false, true, true, false, true, false]).allYes = true := by kernel_rfl
theorem run_fttfftf : (part the [false, true, true, false, false, true, false]).allYes = true := by kernel_rfl
theorem run_ttttfftf : (part the [true, true, true, true, false, false, true, false]).allYes = true := by kernel_rfl
theorem run_tfttfftf : (part the [true, false, true, true, false, false, true, false]).allYes = true := by kernel_rfl
theorem fork_ : forkAt (part the []) = true := by kernel_rfl
theorem fork_ftff : forkAt (part the [false, true, false, false]) = true := by kernel_rfl
theorem fork_ftftf : forkAt (part the [false, true, false, true, false]) = true := by kernel_rfl
theorem fork_fttfft : forkAt (part the [false, true, true, false, false, true]) = true := by kernel_rfl
theorem fork_tft : forkAt (part the [true, false, true]) = true := by kernel_rfl
theorem fork_tftfftf : forkAt (part the [true, false, true, false, false, true, false]) = true := by kernel_rfl
theorem fork_tfttf : forkAt (part the [true, false, true, true, false]) = true := by kernel_rfl
theorem fork_tt : forkAt (part the [true, true]) = true := by kernel_rfl
theorem fork_tttfft : forkAt (part the [true, true, true, false, false, true]) = true := by kernel_rfl
theorem fork_tttt : forkAt (part the [true, true, true, true]) = true := by kernel_rfl
theorem fork_ttttft : forkAt (part the [true, true, true, true, false, true]) = true := by kernel_rfl
end Go.Proofs.YtpchihhngpdblaaGreatDoor.gasCalibrates
