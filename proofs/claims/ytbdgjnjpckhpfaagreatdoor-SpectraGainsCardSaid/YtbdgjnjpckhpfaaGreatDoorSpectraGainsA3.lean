/- SpectraGains: runs. -/
import Derived.Test.YtbdgjnjpckhpfaaGreatDoorSpectraGainsA0
namespace Go.Proofs.YtbdgjnjpckhpfaaGreatDoor.spectraGains
open Go.ChangeShapes Go.WideShapes Go.ChangeAt Go.RowKit
set_option maxRecDepth 100000
theorem run3 : (VM.simp true ((law6 60 20 3 (VM.avsOf args 0) (VM.stOf bx3)).ans) (VM.ssK bx3 [])).allYes = true := by kernel_rfl
theorem run7 : (VM.simp true ((law6 60 20 3 (VM.avsOf args 0) (VM.stOf bx7)).ans) (VM.ssK bx7 [])).allYes = true := by kernel_rfl
theorem run11 : (VM.simp true ((law6 60 20 3 (VM.avsOf args 0) (VM.stOf bx11)).ans) (VM.ssK bx11 [])).allYes = true := by kernel_rfl
theorem run15 : (VM.simp true ((law6 60 20 3 (VM.avsOf args 0) (VM.stOf bx15)).ans) (VM.ssK bx15 [])).allYes = true := by kernel_rfl
theorem run19 : (VM.simp true ((law6 60 20 3 (VM.avsOf args 0) (VM.stOf bx19)).ans) (VM.ssK bx19 [])).allYes = true := by kernel_rfl
theorem run23 : (VM.simp true ((law6 60 20 3 (VM.avsOf args 0) (VM.stOf bx23)).ans) (VM.ssK bx23 [])).allYes = true := by kernel_rfl
theorem run27 : (VM.simp true ((law6 60 20 3 (VM.avsOf args 0) (VM.stOf bx27)).ans) (VM.ssK bx27 [])).allYes = true := by kernel_rfl
theorem run31 : (VM.simp true ((law6 60 20 3 (VM.avsOf args 0) (VM.stOf bx31)).ans) (VM.ssK bx31 [])).allYes = true := by kernel_rfl
end Go.Proofs.YtbdgjnjpckhpfaaGreatDoor.spectraGains
