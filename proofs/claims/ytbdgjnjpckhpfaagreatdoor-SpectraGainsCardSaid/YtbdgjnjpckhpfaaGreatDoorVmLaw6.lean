/- The machine for the laws of spectra: the examples that they hold up, and what is known of functions; the text of 1 is looked up. -/
import Derived.Test.YtbdgjnjpckhpfaaGreatDoorVmLimb
namespace Go.Proofs.YtbdgjnjpckhpfaaGreatDoor
open Go.RowKit Go.Sort Dg Fr
theorem awake6_run : (limb 60 20 15 [] (VM.stOf [])).chk ft.txt (VM.env0 []).m VM.yesB = true := by kernel_rfl
theorem sOk_awake6 : VM.SOk ft Tryz.prog 15 sYes := sYes_ok awake6_run
theorem txt_one : ft.txt 1 = [49] := by kernel_rfl
theorem sOk_text1 : VM.SOk ft Tryz.prog 28 VM.sText1 := VM.sText1_ok txt_one (fun _ _ _ _ hx fx ha hE => Calls.mono (Text_any hx (Nat.le_trans (fits_small fx ha).1 (by decide)) (Nat.le_trans (fits_small fx ha).2 (by decide)) hE.2) (fun _ _ h => h))
noncomputable def law6Tab : List (FuncId × (List VM.AV → VM.St → VM.Tree (VM.TV × VM.St))) := (15, sYes) :: (28, VM.sText1) :: (refTab ++ numTab)
theorem law6Tab_ok : ∀ p ∈ law6Tab, VM.SOk ft Tryz.prog p.1 p.2 := by
  intro p hp
  rcases List.mem_cons.1 hp with rfl | hp
  · exact sOk_awake6
  rcases List.mem_cons.1 hp with rfl | hp
  · exact sOk_text1
  · rcases List.mem_append.1 hp with hp | hp
    · exact refTab_ok p hp
    · exact numTab_ok p hp
noncomputable def law6 (N n : Nat) : VM.CallF := VM.runF Tryz.prog (VM.look law6Tab) md (fun c => VM.aDraw Tryz.prog md c) N n
theorem law6_ok (N n : Nat) : VM.COk ft Tryz.prog md (law6 N n) := VM.runF_ok (VM.tab_ok law6Tab_ok) (fun _ h => VM.aDraw_ok h) N n
end Go.Proofs.YtbdgjnjpckhpfaaGreatDoor
