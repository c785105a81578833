/- FillDraws: what the machine asks of it: nothing, box by box. -/
import Derived.Test.YtjpfiaccgnagdaaGreatDoorFillDrawsA0
namespace Go.Proofs.YtjpfiaccgnagdaaGreatDoor.fillDraws
open Go.ChangeShapes Go.WideShapes Go.ChangeAt Go.RowKit
set_option maxRecDepth 100000
theorem run4 : (VM.simp false ((law8 60 20 3 (VM.avsOf args 0) (VM.stOf bx4)).ans) (VM.ssK bx4 [])).allYes = true := by kernel_rfl
theorem run8 : (VM.simp false ((law8 60 20 3 (VM.avsOf args 0) (VM.stOf bx8)).ans) (VM.ssK bx8 [])).allYes = true := by kernel_rfl
theorem run12 : (VM.simp false ((law8 60 20 3 (VM.avsOf args 0) (VM.stOf bx12)).ans) (VM.ssK bx12 [])).allYes = true := by kernel_rfl
theorem run16 : (VM.simp false ((law8 60 20 3 (VM.avsOf args 0) (VM.stOf bx16)).ans) (VM.ssK bx16 [])).allYes = true := by kernel_rfl
theorem run20 : (VM.simp false ((law8 60 20 3 (VM.avsOf args 0) (VM.stOf bx20)).ans) (VM.ssK bx20 [])).allYes = true := by kernel_rfl
theorem run24 : (VM.simp false ((law8 60 20 3 (VM.avsOf args 0) (VM.stOf bx24)).ans) (VM.ssK bx24 [])).allYes = true := by kernel_rfl
theorem run28 : (VM.simp false ((law8 60 20 3 (VM.avsOf args 0) (VM.stOf bx28)).ans) (VM.ssK bx28 [])).allYes = true := by kernel_rfl
theorem run32 : (VM.simp false ((law8 60 20 3 (VM.avsOf args 0) (VM.stOf bx32)).ans) (VM.ssK bx32 [])).allYes = true := by kernel_rfl
theorem run36 : (VM.simp false ((law8 60 20 3 (VM.avsOf args 0) (VM.stOf bx36)).ans) (VM.ssK bx36 [])).allYes = true := by kernel_rfl
theorem run40 : (VM.simp false ((law8 60 20 3 (VM.avsOf args 0) (VM.stOf bx40)).ans) (VM.ssK bx40 [])).allYes = true := by kernel_rfl
theorem run44 : (VM.simp false ((law8 60 20 3 (VM.avsOf args 0) (VM.stOf bx44)).ans) (VM.ssK bx44 [])).allYes = true := by kernel_rfl
theorem run48 : (VM.simp false ((law8 60 20 3 (VM.avsOf args 0) (VM.stOf bx48)).ans) (VM.ssK bx48 [])).allYes = true := by kernel_rfl
end Go.Proofs.YtjpfiaccgnagdaaGreatDoor.fillDraws
