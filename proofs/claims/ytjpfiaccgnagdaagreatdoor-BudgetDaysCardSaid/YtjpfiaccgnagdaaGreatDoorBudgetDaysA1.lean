/- BudgetDays: runs. -/
import Derived.Test.YtjpfiaccgnagdaaGreatDoorBudgetDaysA0
namespace Go.Proofs.YtjpfiaccgnagdaaGreatDoor.budgetDays
open Go.ChangeShapes Go.WideShapes Go.ChangeAt Go.RowKit
set_option maxRecDepth 100000
theorem run_tf : (part the [true, false]).allYes = true := by kernel_rfl
theorem run_ffff : (part the [false, false, false, false]).allYes = true := by kernel_rfl
theorem run_fttttf : (part the [false, true, true, true, true, false]).allYes = true := by kernel_rfl
theorem run_ffftttf : (part the [false, false, false, true, true, true, false]).allYes = true := by kernel_rfl
theorem run_ftttttttf : (part the [false, true, true, true, true, true, true, true, false]).allYes = true := by kernel_rfl
theorem run_fffttttttf : (part the [false, false, false, true, true, true, true, true, true, false]).allYes = true := by kernel_rfl
theorem fork_ : forkAt (part the []) = true := by kernel_rfl
theorem fork_fffttt : forkAt (part the [false, false, false, true, true, true]) = true := by kernel_rfl
theorem fork_ffttt : forkAt (part the [false, false, true, true, true]) = true := by kernel_rfl
theorem fork_ftt : forkAt (part the [false, true, true]) = true := by kernel_rfl
theorem fork_t : forkAt (part the [true]) = true := by kernel_rfl
theorem fork_ttttttt : forkAt (part the [true, true, true, true, true, true, true]) = true := by kernel_rfl
end Go.Proofs.YtjpfiaccgnagdaaGreatDoor.budgetDays
