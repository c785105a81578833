/- The machine for the laws of eddy: the examples that they hold up, and what is known of functions. -/
import Derived.Test.YtafckcmieepmaaaGreatDoorVmLimb
namespace Go.Proofs.YtafckcmieepmaaaGreatDoor
open Go.RowKit Go.Sort Dg Fr
theorem awake5_run : (limb 60 20 8 [] (VM.stOf [])).chk ft.txt (VM.env0 []).m VM.yesB = true := by kernel_rfl
theorem sOk_awake5 : VM.SOk ft Tryz.prog 8 sYes := sYes_ok awake5_run
noncomputable def law5Tab : List (FuncId × (List VM.AV → VM.St → VM.Tree (VM.TV × VM.St))) := (8, sYes) :: (refTab ++ numTab)
theorem law5Tab_ok : ∀ p ∈ law5Tab, VM.SOk ft Tryz.prog p.1 p.2 := by
  intro p hp
  rcases List.mem_cons.1 hp with rfl | hp
  · exact sOk_awake5
  · rcases List.mem_append.1 hp with hp | hp
    · exact refTab_ok p hp
    · exact numTab_ok p hp
noncomputable def law5 (N n : Nat) : VM.CallF := VM.runF Tryz.prog (VM.look law5Tab) md (fun c => VM.aDraw Tryz.prog md c) N n
theorem law5_ok (N n : Nat) : VM.COk ft Tryz.prog md (law5 N n) := VM.runF_ok (VM.tab_ok law5Tab_ok) (fun _ h => VM.aDraw_ok h) N n
end Go.Proofs.YtafckcmieepmaaaGreatDoor
