/- BudgetDays: runs. -/
import Derived.Test.YtjpfiaccgnagdaaGreatDoorBudgetDaysA0
namespace Go.Proofs.YtjpfiaccgnagdaaGreatDoor.budgetDays
open Go.ChangeShapes Go.WideShapes Go.ChangeAt Go.RowKit
set_option maxRecDepth 100000
theorem run_fftf : (part the [false, false, true, false]).allYes = true := by kernel_rfl
theorem run_tttttf : (part the [true, true, true, true, true, false]).allYes = true := by kernel_rfl
theorem run_ffttttf : (part the [false, false, true, true, true, true, false]).allYes = true := by kernel_rfl
theorem run_fffttttf : (part the [false, false, false, true, true, true, true, false]).allYes = true := by kernel_rfl
theorem run_fftttttttt : (part the [false, false, true, true, true, true, true, true, true, true]).allYes = true := by kernel_rfl
theorem fork_ffftt : forkAt (part the [false, false, false, true, true]) = true := by kernel_rfl
theorem fork_fftt : forkAt (part the [false, false, true, true]) = true := by kernel_rfl
theorem fork_ft : forkAt (part the [false, true]) = true := by kernel_rfl
theorem fork_fttttttt : forkAt (part the [false, true, true, true, true, true, true, true]) = true := by kernel_rfl
theorem fork_tttttt : forkAt (part the [true, true, true, true, true, true]) = true := by kernel_rfl
end Go.Proofs.YtjpfiaccgnagdaaGreatDoor.budgetDays
