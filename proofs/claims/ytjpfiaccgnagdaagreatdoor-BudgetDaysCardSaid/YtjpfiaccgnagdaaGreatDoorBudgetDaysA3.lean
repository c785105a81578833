/- BudgetDays: runs. -/
import Derived.Test.YtjpfiaccgnagdaaGreatDoorBudgetDaysA0
namespace Go.Proofs.YtjpfiaccgnagdaaGreatDoor.budgetDays
open Go.ChangeShapes Go.WideShapes Go.ChangeAt Go.RowKit
set_option maxRecDepth 100000
theorem run_ftf : (part the [false, true, false]).allYes = true := by kernel_rfl
theorem run_ftttf : (part the [false, true, true, true, false]).allYes = true := by kernel_rfl
theorem run_fffttf : (part the [false, false, false, true, true, false]).allYes = true := by kernel_rfl
theorem run_tttttttt : (part the [true, true, true, true, true, true, true, true]).allYes = true := by kernel_rfl
theorem run_ffttttttf : (part the [false, false, true, true, true, true, true, true, false]).allYes = true := by kernel_rfl
theorem fork_ff : forkAt (part the [false, false]) = true := by kernel_rfl
theorem fork_fffttttt : forkAt (part the [false, false, false, true, true, true, true, true]) = true := by kernel_rfl
theorem fork_ffttttt : forkAt (part the [false, false, true, true, true, true, true]) = true := by kernel_rfl
theorem fork_ftttt : forkAt (part the [false, true, true, true, true]) = true := by kernel_rfl
theorem fork_ttt : forkAt (part the [true, true, true]) = true := by kernel_rfl
end Go.Proofs.YtjpfiaccgnagdaaGreatDoor.budgetDays
