/- EddyMoments: runs. -/
import Derived.Test.YteooocleoihdbaaGreatDoorEddyMomentsA0
namespace Go.Proofs.YteooocleoihdbaaGreatDoor.eddyMoments
open Go.ChangeShapes Go.WideShapes Go.ChangeAt Go.RowKit
set_option maxRecDepth 100000
theorem run_ab : (the bx_ab).allYes = true := by kernel_rfl
theorem cut_zz0 : beside (the bx_zz) [true, true, false, false, true, true, true, true, true, false, false] = true := by kernel_rfl
theorem run_pz : (the bx_pz).allYes = true := by kernel_rfl
theorem end_pp : (part (part (the bx_pp) [true, true, false, false, false, false, false, false]) [true]).allYes = true := by kernel_rfl
end Go.Proofs.YteooocleoihdbaaGreatDoor.eddyMoments
