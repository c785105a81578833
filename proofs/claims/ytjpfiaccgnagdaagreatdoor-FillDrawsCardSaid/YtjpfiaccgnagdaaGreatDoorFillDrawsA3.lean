/- FillDraws: what the machine asks of it: nothing, box by box. -/
import Derived.Test.YtjpfiaccgnagdaaGreatDoorFillDrawsA0
namespace Go.Proofs.YtjpfiaccgnagdaaGreatDoor.fillDraws
open Go.ChangeShapes Go.WideShapes Go.ChangeAt Go.RowKit
set_option maxRecDepth 100000
theorem run3 : (VM.simp false ((law8 60 20 3 (VM.avsOf args 0) (VM.stOf bx3)).ans) (VM.ssK bx3 [])).allYes = true := by kernel_rfl
theorem run7 : (VM.simp false ((law8 60 20 3 (VM.avsOf args 0) (VM.stOf bx7)).ans) (VM.ssK bx7 [])).allYes = true := by kernel_rfl
theorem run11 : (VM.simp false ((law8 60 20 3 (VM.avsOf args 0) (VM.stOf bx11)).ans) (VM.ssK bx11 [])).allYes = true := by kernel_rfl
theorem run15 : (VM.simp false ((law8 60 20 3 (VM.avsOf args 0) (VM.stOf bx15)).ans) (VM.ssK bx15 [])).allYes = true := by kernel_rfl
theorem run19 : (VM.simp false ((law8 60 20 3 (VM.avsOf args 0) (VM.stOf bx19)).ans) (VM.ssK bx19 [])).allYes = true := by kernel_rfl
theorem run23 : (VM.simp false ((law8 60 20 3 (VM.avsOf args 0) (VM.stOf bx23)).ans) (VM.ssK bx23 [])).allYes = true := by kernel_rfl
theorem run27 : (VM.simp false ((law8 60 20 3 (VM.avsOf args 0) (VM.stOf bx27)).ans) (VM.ssK bx27 [])).allYes = true := by kernel_rfl
theorem run31 : (VM.simp false ((law8 60 20 3 (VM.avsOf args 0) (VM.stOf bx31)).ans) (VM.ssK bx31 [])).allYes = true := by kernel_rfl
theorem run35 : (VM.simp false ((law8 60 20 3 (VM.avsOf args 0) (VM.stOf bx35)).ans) (VM.ssK bx35 [])).allYes = true := by kernel_rfl
theorem run39 : (VM.simp false ((law8 60 20 3 (VM.avsOf args 0) (VM.stOf bx39)).ans) (VM.ssK bx39 [])).allYes = true := by kernel_rfl
theorem run43 : (VM.simp false ((law8 60 20 3 (VM.avsOf args 0) (VM.stOf bx43)).ans) (VM.ssK bx43 [])).allYes = true := by kernel_rfl
theorem run47 : (VM.simp false ((law8 60 20 3 (VM.avsOf args 0) (VM.stOf bx47)).ans) (VM.ssK bx47 [])).allYes = true := by kernel_rfl
theorem run51 : (VM.simp false ((law8 60 20 3 (VM.avsOf args 0) (VM.stOf bx51)).ans) (VM.ssK bx51 [])).allYes = true := by kernel_rfl
end Go.Proofs.YtjpfiaccgnagdaaGreatDoor.fillDraws
