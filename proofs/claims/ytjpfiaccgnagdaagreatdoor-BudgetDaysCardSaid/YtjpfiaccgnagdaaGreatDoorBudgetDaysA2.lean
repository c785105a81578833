/- BudgetDays: runs. -/
import Derived.Test.YtjpfiaccgnagdaaGreatDoorBudgetDaysA0
namespace Go.Proofs.YtjpfiaccgnagdaaGreatDoor.budgetDays
open Go.ChangeShapes Go.WideShapes Go.ChangeAt Go.RowKit
set_option maxRecDepth 100000
theorem run_ttf : (part the [true, true, false]).allYes = true := by kernel_rfl
theorem run_ttttf : (part the [true, true, true, true, false]).allYes = true := by kernel_rfl
theorem run_fftttf : (part the [false, false, true, true, true, false]).allYes = true := by kernel_rfl
theorem run_tttttttf : (part the [true, true, true, true, true, true, true, false]).allYes = true := by kernel_rfl
theorem run_ftttttttt : (part the [false, true, true, true, true, true, true, true, true]).allYes = true := by kernel_rfl
theorem run_fffttttttt : (part the [false, false, false, true, true, true, true, true, true, true]).allYes = true := by kernel_rfl
theorem fork_f : forkAt (part the [false]) = true := by kernel_rfl
theorem fork_ffftttt : forkAt (part the [false, false, false, true, true, true, true]) = true := by kernel_rfl
theorem fork_fftttt : forkAt (part the [false, false, true, true, true, true]) = true := by kernel_rfl
theorem fork_fttt : forkAt (part the [false, true, true, true]) = true := by kernel_rfl
theorem fork_tt : forkAt (part the [true, true]) = true := by kernel_rfl
end Go.Proofs.YtjpfiaccgnagdaaGreatDoor.budgetDays
