/- GasCalibrates: runs. -/
import Derived.Test.YtpchihhngpdblaaGreatDoorGasCalibratesA0
namespace Go.Proofs.YtpchihhngpdblaaGreatDoor.gasCalibrates
open Go.ChangeShapes Go.WideShapes Go.ChangeAt Go.RowKit
set_option maxRecDepth 100000
theorem run_ttf : (part the [true, true, false]).allYes = true := by kernel_rfl
theorem run_tfttt : (part the [true, false, true, true, true]).allYes = true := by kernel_rfl
theorem run_tttftt : (part the [true, true, true, false, true, true]).allYes = true := by kernel_rfl
theorem run_ftftff : (part the [false, true, false, true, false, false]).allYes = true := by kernel_rfl
theorem run_fttftt : (part the [false, true, true, false, true, true]).allYes = true := by kernel_rfl
theorem run_ttttfff : (part the [true, true, true, true, false, false, false]).allYes = true := by kernel_rfl
theorem run_tftftff : (part the [true, false, true, false, true, false, false]).allYes = true := by kernel_rfl
theorem run_tfttftt : (part the [true, false, true, true, false, true, true]).allYes = true := by kernel_rfl
theorem run_fttfftt : (part the [false, true, true, false, false, true, true]).allYes = true := by kernel_rfl
theorem run_ttttfftt : (part the [true, true, true, true, false, false, true, true]).allYes = true := by kernel_rfl
theorem run_tfttfftt : (part the [true, false, true, true, false, false, true, true]).allYes = true := by kernel_rfl
theorem fork_f : forkAt (part the [false]) = true := by kernel_rfl
theorem fork_ftfft : forkAt (part the [false, true, false, false, true]) = true := by kernel_rfl
theorem fork_ftt : forkAt (part the [false, true, true]) = true := by kernel_rfl
theorem fork_fttft : forkAt (part the [false, true, true, false, true]) = true := by kernel_rfl
theorem fork_tftf : forkAt (part the [true, false, true, false]) = true := by kernel_rfl
theorem fork_tftft : forkAt (part the [true, false, true, false, true]) = true := by kernel_rfl
theorem fork_tfttff : forkAt (part the [true, false, true, true, false, false]) = true := by kernel_rfl
theorem fork_ttt : forkAt (part the [true, true, true]) = true := by kernel_rfl
theorem fork_tttfftf : forkAt (part the [true, true, true, false, false, true, false]) = true := by kernel_rfl
theorem fork_ttttf : forkAt (part the [true, true, true, true, false]) = true := by kernel_rfl
end Go.Proofs.YtpchihhngpdblaaGreatDoor.gasCalibrates
