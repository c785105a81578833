/- BudgetDays: runs. -/
import Derived.Test.YtjpfiaccgnagdaaGreatDoorBudgetDaysA0
namespace Go.Proofs.YtjpfiaccgnagdaaGreatDoor.budgetDays
open Go.ChangeShapes Go.WideShapes Go.ChangeAt Go.RowKit
set_option maxRecDepth 100000
theorem run_tttf : (part the [true, true, true, false]).allYes = true := by kernel_rfl
theorem run_ffttf : (part the [false, false, true, true, false]).allYes = true := by kernel_rfl
theorem run_ttttttf : (part the [true, true, true, true, true, true, false]).allYes = true := by kernel_rfl
theorem run_fttttttf : (part the [false, true, true, true, true, true, true, false]).allYes = true := by kernel_rfl
theorem run_ffftttttf : (part the [false, false, false, true, true, true, true, true, false]).allYes = true := by kernel_rfl
theorem fork_fff : forkAt (part the [false, false, false]) = true := by kernel_rfl
theorem fork_ffftttttt : forkAt (part the [false, false, false, true, true, true, true, true, true]) = true := by kernel_rfl
theorem fork_fftttttt : forkAt (part the [false, false, true, true, true, true, true, true]) = true := by kernel_rfl
theorem fork_fttttt : forkAt (part the [false, true, true, true, true, true]) = true := by kernel_rfl
theorem fork_tttt : forkAt (part the [true, true, true, true]) = true := by kernel_rfl
end Go.Proofs.YtjpfiaccgnagdaaGreatDoor.budgetDays
