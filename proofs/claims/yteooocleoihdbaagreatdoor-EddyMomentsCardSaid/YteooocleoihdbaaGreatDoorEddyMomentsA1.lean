/- EddyMoments: runs. -/
import Derived.Test.YteooocleoihdbaaGreatDoorEddyMomentsA0
namespace Go.Proofs.YteooocleoihdbaaGreatDoor.eddyMoments
open Go.ChangeShapes Go.WideShapes Go.ChangeAt Go.RowKit
set_option maxRecDepth 100000
theorem run_an : (the bx_an).allYes = true := by kernel_rfl
theorem run_bb : (the bx_bb).allYes = true := by kernel_rfl
theorem run_zp : (the bx_zp).allYes = true := by kernel_rfl
theorem cut_pp1 : beside (part (the bx_pp) [true, true, false, false, false, false, false, false]) [true] = true := by kernel_rfl
end Go.Proofs.YteooocleoihdbaaGreatDoor.eddyMoments
