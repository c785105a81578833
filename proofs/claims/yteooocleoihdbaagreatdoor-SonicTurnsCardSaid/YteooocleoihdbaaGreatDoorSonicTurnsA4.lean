/- SonicTurns: the first number of the first turn that is not 0 is number 3. -/
import Derived.Test.YteooocleoihdbaaGreatDoorSonicTurnsA0
namespace Go.Proofs.YteooocleoihdbaaGreatDoor.sonicTurns
open Go.ChangeShapes Go.WideShapes Go.ChangeAt Go.RowKit
set_option maxRecDepth 100000
theorem run3_z : (VM.simp true ((law3T 60 20 3 (VM.avsOf args 0) (VM.stOf (VM.rngsOf args))).ans) (VM.ssK (VM.rngsOf args) (k3 0 ++ kz 4))).allYes = true := by kernel_rfl
theorem run3_0 : (VM.simp true ((law3T 60 20 3 (VM.avsOf args 0) (VM.stOf (VM.rngsOf args))).ans) (VM.ssK (VM.rngsOf args) (k3 0 ++ (k0 4 ++ kq)))).allYes = true := by kernel_rfl
theorem run3_1 : (VM.simp true ((law3T 60 20 3 (VM.avsOf args 0) (VM.stOf (VM.rngsOf args))).ans) (VM.ssK (VM.rngsOf args) (k3 0 ++ (k1 4 ++ kq)))).allYes = true := by kernel_rfl
theorem run3_2 : (VM.simp true ((law3T 60 20 3 (VM.avsOf args 0) (VM.stOf (VM.rngsOf args))).ans) (VM.ssK (VM.rngsOf args) (k3 0 ++ (k2 4 ++ kq)))).allYes = true := by kernel_rfl
theorem run3_3 : (VM.simp true ((law3T 60 20 3 (VM.avsOf args 0) (VM.stOf (VM.rngsOf args))).ans) (VM.ssK (VM.rngsOf args) (k3 0 ++ (k3 4 ++ kq)))).allYes = true := by kernel_rfl
end Go.Proofs.YteooocleoihdbaaGreatDoor.sonicTurns
