/- SpectraGains: runs. -/
import Derived.Test.YtbdgjnjpckhpfaaGreatDoorSpectraGainsA0
namespace Go.Proofs.YtbdgjnjpckhpfaaGreatDoor.spectraGains
open Go.ChangeShapes Go.WideShapes Go.ChangeAt Go.RowKit
set_option maxRecDepth 100000
theorem run1 : (VM.simp true ((law6 60 20 3 (VM.avsOf args 0) (VM.stOf bx1)).ans) (VM.ssK bx1 [])).allYes = true := by kernel_rfl
theorem run5 : (VM.simp true ((law6 60 20 3 (VM.avsOf args 0) (VM.stOf bx5)).ans) (VM.ssK bx5 [])).allYes = true := by kernel_rfl
theorem run9 : (VM.simp true ((law6 60 20 3 (VM.avsOf args 0) (VM.stOf bx9)).ans) (VM.ssK bx9 [])).allYes = true := by kernel_rfl
theorem run13 : (VM.simp true ((law6 60 20 3 (VM.avsOf args 0) (VM.stOf bx13)).ans) (VM.ssK bx13 [])).allYes = true := by kernel_rfl
theorem run17 : (VM.simp true ((law6 60 20 3 (VM.avsOf args 0) (VM.stOf bx17)).ans) (VM.ssK bx17 [])).allYes = true := by kernel_rfl
theorem run21 : (VM.simp true ((law6 60 20 3 (VM.avsOf args 0) (VM.stOf bx21)).ans) (VM.ssK bx21 [])).allYes = true := by kernel_rfl
theorem run25 : (VM.simp true ((law6 60 20 3 (VM.avsOf args 0) (VM.stOf bx25)).ans) (VM.ssK bx25 [])).allYes = true := by kernel_rfl
theorem run29 : (VM.simp true ((law6 60 20 3 (VM.avsOf args 0) (VM.stOf bx29)).ans) (VM.ssK bx29 [])).allYes = true := by kernel_rfl
end Go.Proofs.YtbdgjnjpckhpfaaGreatDoor.spectraGains
