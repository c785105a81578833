/- FillDraws: what the machine asks of it: nothing, box by box. -/
import Derived.Test.YtjpfiaccgnagdaaGreatDoorFillDrawsA0
namespace Go.Proofs.YtjpfiaccgnagdaaGreatDoor.fillDraws
open Go.ChangeShapes Go.WideShapes Go.ChangeAt Go.RowKit
set_option maxRecDepth 100000
theorem run1 : (VM.simp false ((law8 60 20 3 (VM.avsOf args 0) (VM.stOf bx1)).ans) (VM.ssK bx1 [])).allYes = true := by kernel_rfl
theorem run5 : (VM.simp false ((law8 60 20 3 (VM.avsOf args 0) (VM.stOf bx5)).ans) (VM.ssK bx5 [])).allYes = true := by kernel_rfl
theorem run9 : (VM.simp false ((law8 60 20 3 (VM.avsOf args 0) (VM.stOf bx9)).ans) (VM.ssK bx9 [])).allYes = true := by kernel_rfl
theorem run13 : (VM.simp false ((law8 60 20 3 (VM.avsOf args 0) (VM.stOf bx13)).ans) (VM.ssK bx13 [])).allYes = true := by kernel_rfl
theorem run17 : (VM.simp false ((law8 60 20 3 (VM.avsOf args 0) (VM.stOf bx17)).ans) (VM.ssK bx17 [])).allYes = true := by kernel_rfl
theorem run21 : (VM.simp false ((law8 60 20 3 (VM.avsOf args 0) (VM.stOf bx21)).ans) (VM.ssK bx21 [])).allYes = true := by kernel_rfl
theorem run25 : (VM.simp false ((law8 60 20 3 (VM.avsOf args 0) (VM.stOf bx25)).ans) (VM.ssK bx25 [])).allYes = true := by kernel_rfl
theorem run29 : (VM.simp false ((law8 60 20 3 (VM.avsOf args 0) (VM.stOf bx29)).ans) (VM.ssK bx29 [])).allYes = true := by kernel_rfl
theorem run33 : (VM.simp false ((law8 60 20 3 (VM.avsOf args 0) (VM.stOf bx33)).ans) (VM.ssK bx33 [])).allYes = true := by kernel_rfl
theorem run37 : (VM.simp false ((law8 60 20 3 (VM.avsOf args 0) (VM.stOf bx37)).ans) (VM.ssK bx37 [])).allYes = true := by kernel_rfl
theorem run41 : (VM.simp false ((law8 60 20 3 (VM.avsOf args 0) (VM.stOf bx41)).ans) (VM.ssK bx41 [])).allYes = true := by kernel_rfl
theorem run45 : (VM.simp false ((law8 60 20 3 (VM.avsOf args 0) (VM.stOf bx45)).ans) (VM.ssK bx45 [])).allYes = true := by kernel_rfl
theorem run49 : (VM.simp false ((law8 60 20 3 (VM.avsOf args 0) (VM.stOf bx49)).ans) (VM.ssK bx49 [])).allYes = true := by kernel_rfl
end Go.Proofs.YtjpfiaccgnagdaaGreatDoor.fillDraws
