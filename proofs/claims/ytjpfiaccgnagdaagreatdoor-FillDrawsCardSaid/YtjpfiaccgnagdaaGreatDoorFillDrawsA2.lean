/- FillDraws: what the machine asks of it: nothing, box by box. -/
import Derived.Test.YtjpfiaccgnagdaaGreatDoorFillDrawsA0
namespace Go.Proofs.YtjpfiaccgnagdaaGreatDoor.fillDraws
open Go.ChangeShapes Go.WideShapes Go.ChangeAt Go.RowKit
set_option maxRecDepth 100000
theorem run2 : (VM.simp false ((law8 60 20 3 (VM.avsOf args 0) (VM.stOf bx2)).ans) (VM.ssK bx2 [])).allYes = true := by kernel_rfl
theorem run6 : (VM.simp false ((law8 60 20 3 (VM.avsOf args 0) (VM.stOf bx6)).ans) (VM.ssK bx6 [])).allYes = true := by kernel_rfl
theorem run10 : (VM.simp false ((law8 60 20 3 (VM.avsOf args 0) (VM.stOf bx10)).ans) (VM.ssK bx10 [])).allYes = true := by kernel_rfl
theorem run14 : (VM.simp false ((law8 60 20 3 (VM.avsOf args 0) (VM.stOf bx14)).ans) (VM.ssK bx14 [])).allYes = true := by kernel_rfl
theorem run18 : (VM.simp false ((law8 60 20 3 (VM.avsOf args 0) (VM.stOf bx18)).ans) (VM.ssK bx18 [])).allYes = true := by kernel_rfl
theorem run22 : (VM.simp false ((law8 60 20 3 (VM.avsOf args 0) (VM.stOf bx22)).ans) (VM.ssK bx22 [])).allYes = true := by kernel_rfl
theorem run26 : (VM.simp false ((law8 60 20 3 (VM.avsOf args 0) (VM.stOf bx26)).ans) (VM.ssK bx26 [])).allYes = true := by kernel_rfl
theorem run30 : (VM.simp false ((law8 60 20 3 (VM.avsOf args 0) (VM.stOf bx30)).ans) (VM.ssK bx30 [])).allYes = true := by kernel_rfl
theorem run34 : (VM.simp false ((law8 60 20 3 (VM.avsOf args 0) (VM.stOf bx34)).ans) (VM.ssK bx34 [])).allYes = true := by kernel_rfl
theorem run38 : (VM.simp false ((law8 60 20 3 (VM.avsOf args 0) (VM.stOf bx38)).ans) (VM.ssK bx38 [])).allYes = true := by kernel_rfl
theorem run42 : (VM.simp false ((law8 60 20 3 (VM.avsOf args 0) (VM.stOf bx42)).ans) (VM.ssK bx42 [])).allYes = true := by kernel_rfl
theorem run46 : (VM.simp false ((law8 60 20 3 (VM.avsOf args 0) (VM.stOf bx46)).ans) (VM.ssK bx46 [])).allYes = true := by kernel_rfl
theorem run50 : (VM.simp false ((law8 60 20 3 (VM.avsOf args 0) (VM.stOf bx50)).ans) (VM.ssK bx50 [])).allYes = true := by kernel_rfl
end Go.Proofs.YtjpfiaccgnagdaaGreatDoor.fillDraws
