/- The machine for the laws of gas: the examples that they hold up, and what is known of functions. -/
import Derived.Test.YtnknikemdplodaaGreatDoorVmLimb
namespace Go.Proofs.YtnknikemdplodaaGreatDoor
open Go.RowKit Go.Sort Dg Fr
theorem awake1_run : (limb 60 20 12 [] (VM.stOf [])).chk ft.txt (VM.env0 []).m VM.yesB = true := by kernel_rfl
theorem sOk_awake1 : VM.SOk ft Tryz.prog 12 sYes := sYes_ok awake1_run
noncomputable def law1Tab : List (FuncId × (List VM.AV → VM.St → VM.Tree (VM.TV × VM.St))) := (12, sYes) :: (refTab ++ numTab)
theorem law1Tab_ok : ∀ p ∈ law1Tab, VM.SOk ft Tryz.prog p.1 p.2 := by
  intro p hp
  rcases List.mem_cons.1 hp with rfl | hp
  · exact sOk_awake1
  · rcases List.mem_append.1 hp with hp | hp
    · exact refTab_ok p hp
    · exact numTab_ok p hp
noncomputable def law1 (N n : Nat) : VM.CallF := VM.runF Tryz.prog (VM.look law1Tab) md (fun c => VM.aDraw Tryz.prog md c) N n
theorem law1_ok (N n : Nat) : VM.COk ft Tryz.prog md (law1 N n) := VM.runF_ok (VM.tab_ok law1Tab_ok) (fun _ h => VM.aDraw_ok h) N n
end Go.Proofs.YtnknikemdplodaaGreatDoor
