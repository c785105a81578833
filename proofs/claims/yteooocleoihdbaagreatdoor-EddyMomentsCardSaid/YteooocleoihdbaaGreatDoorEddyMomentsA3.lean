/- EddyMoments: runs. -/
import Derived.Test.YteooocleoihdbaaGreatDoorEddyMomentsA0
namespace Go.Proofs.YteooocleoihdbaaGreatDoor.eddyMoments
open Go.ChangeShapes Go.WideShapes Go.ChangeAt Go.RowKit
set_option maxRecDepth 100000
theorem run_bn : (the bx_bn).allYes = true := by kernel_rfl
theorem end_zz : (part (the bx_zz) [true, true, false, false, true, true, true, true, true, false, false]).allYes = true := by kernel_rfl
theorem cut_pp0 : beside (the bx_pp) [true, true, false, false, false, false, false, false] = true := by kernel_rfl
end Go.Proofs.YteooocleoihdbaaGreatDoor.eddyMoments
