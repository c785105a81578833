/- BudgetDays: runs. -/
import Derived.Test.YtjpfiaccgnagdaaGreatDoorBudgetDaysA0
namespace Go.Proofs.YtjpfiaccgnagdaaGreatDoor.budgetDays
open Go.ChangeShapes Go.WideShapes Go.ChangeAt Go.RowKit
set_option maxRecDepth 100000
theorem run_fttf : (part the [false, true, true, false]).allYes = true := by kernel_rfl
theorem run_ffftf : (part the [false, false, false, true, false]).allYes = true := by kernel_rfl
theorem run_ftttttf : (part the [false, true, true, true, true, true, false]).allYes = true := by kernel_rfl
theorem run_fftttttf : (part the [false, false, true, true, true, true, true, false]).allYes = true := by kernel_rfl
theorem run_fftttttttf : (part the [false, false, true, true, true, true, true, true, true, false]).allYes = true := by kernel_rfl
theorem fork_ffft : forkAt (part the [false, false, false, true]) = true := by kernel_rfl
theorem fork_fft : forkAt (part the [false, false, true]) = true := by kernel_rfl
theorem fork_ffttttttt : forkAt (part the [false, false, true, true, true, true, true, true, true]) = true := by kernel_rfl
theorem fork_ftttttt : forkAt (part the [false, true, true, true, true, true, true]) = true := by kernel_rfl
theorem fork_ttttt : forkAt (part the [true, true, true, true, true]) = true := by kernel_rfl
end Go.Proofs.YtjpfiaccgnagdaaGreatDoor.budgetDays
