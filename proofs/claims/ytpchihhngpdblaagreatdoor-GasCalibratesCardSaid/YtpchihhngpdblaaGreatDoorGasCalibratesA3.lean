/- GasCalibrates: runs. -/
import Derived.Test.YtpchihhngpdblaaGreatDoorGasCalibratesA0
namespace Go.Proofs.YtpchihhngpdblaaGreatDoor.gasCalibrates
open Go.ChangeShapes Go.WideShapes Go.ChangeAt Go.RowKit
set_option maxRecDepth 100000
theorem run_tff : (part the [true, false, false]).allYes = true := by kernel_rfl
theorem run_ftfff : (part the [false, true, false, false, false]).allYes = true := by kernel_rfl
theorem run_tftfff : (part the [true, false, true, false, false, false]).allYes = true := by kernel_rfl
theorem run_ftftft : (part the [false, true, false, true, false, true]).allYes = true := by kernel_rfl
theorem run_tttfftt : (part the [true, true, true, false, false, true, true]).allYes = true := by kernel_rfl
theorem run_ttttftf : (part the [true, true, true, true, false, true, false]).allYes = true := by kernel_rfl
theorem run_tftftft : (part the [true, false, true, false, true, false, true]).allYes = true := by kernel_rfl
theorem run_ftfftff : (part the [false, true, false, false, true, false, false]).allYes = true := by kernel_rfl
theorem run_tttfftff : (part the [true, true, true, false, false, true, false, false]).allYes = true := by kernel_rfl
theorem run_tftfftff : (part the [true, false, true, false, false, true, false, false]).allYes = true := by kernel_rfl
theorem fork_ft : forkAt (part the [false, true]) = true := by kernel_rfl
theorem fork_ftfftf : forkAt (part the [false, true, false, false, true, false]) = true := by kernel_rfl
theorem fork_fttf : forkAt (part the [false, true, true, false]) = true := by kernel_rfl
theorem fork_t : forkAt (part the [true]) = true := by kernel_rfl
theorem fork_tftff : forkAt (part the [true, false, true, false, false]) = true := by kernel_rfl
theorem fork_tftftf : forkAt (part the [true, false, true, false, true, false]) = true := by kernel_rfl
theorem fork_tfttfft : forkAt (part the [true, false, true, true, false, false, true]) = true := by kernel_rfl
theorem fork_tttf : forkAt (part the [true, true, true, false]) = true := by kernel_rfl
theorem fork_tttft : forkAt (part the [true, true, true, false, true]) = true := by kernel_rfl
theorem fork_ttttff : forkAt (part the [true, true, true, true, false, false]) = true := by kernel_rfl
end Go.Proofs.YtpchihhngpdblaaGreatDoor.gasCalibrates
