/- SpectraGains: runs. -/
import Derived.Test.YtbdgjnjpckhpfaaGreatDoorSpectraGainsA0
namespace Go.Proofs.YtbdgjnjpckhpfaaGreatDoor.spectraGains
open Go.ChangeShapes Go.WideShapes Go.ChangeAt Go.RowKit
set_option maxRecDepth 100000
theorem run2 : (VM.simp true ((law6 60 20 3 (VM.avsOf args 0) (VM.stOf bx2)).ans) (VM.ssK bx2 [])).allYes = true := by kernel_rfl
theorem run6 : (VM.simp true ((law6 60 20 3 (VM.avsOf args 0) (VM.stOf bx6)).ans) (VM.ssK bx6 [])).allYes = true := by kernel_rfl
theorem run10 : (VM.simp true ((law6 60 20 3 (VM.avsOf args 0) (VM.stOf bx10)).ans) (VM.ssK bx10 [])).allYes = true := by kernel_rfl
theorem run14 : (VM.simp true ((law6 60 20 3 (VM.avsOf args 0) (VM.stOf bx14)).ans) (VM.ssK bx14 [])).allYes = true := by kernel_rfl
theorem run18 : (VM.simp true ((law6 60 20 3 (VM.avsOf args 0) (VM.stOf bx18)).ans) (VM.ssK bx18 [])).allYes = true := by kernel_rfl
theorem run22 : (VM.simp true ((law6 60 20 3 (VM.avsOf args 0) (VM.stOf bx22)).ans) (VM.ssK bx22 [])).allYes = true := by kernel_rfl
theorem run26 : (VM.simp true ((law6 60 20 3 (VM.avsOf args 0) (VM.stOf bx26)).ans) (VM.ssK bx26 [])).allYes = true := by kernel_rfl
theorem run30 : (VM.simp true ((law6 60 20 3 (VM.avsOf args 0) (VM.stOf bx30)).ans) (VM.ssK bx30 [])).allYes = true := by kernel_rfl
end Go.Proofs.YtbdgjnjpckhpfaaGreatDoor.spectraGains
