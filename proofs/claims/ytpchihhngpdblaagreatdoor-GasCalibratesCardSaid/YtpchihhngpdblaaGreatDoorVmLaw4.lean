/- The machine for the laws of gas: the examples that they hold up, and what is known of functions. -/
import Derived.Test.YtpchihhngpdblaaGreatDoorVmLimb
namespace Go.Proofs.YtpchihhngpdblaaGreatDoor
open Go.RowKit Go.Sort Dg Fr
theorem awake4_run : (limb 60 20 27 [] (VM.stOf [])).chk ft.txt (VM.env0 []).m VM.yesB = true := by kernel_rfl
theorem sOk_awake4 : VM.SOk ft Tryz.prog 27 sYes := sYes_ok awake4_run
noncomputable def law4Tab : List (FuncId × (List VM.AV → VM.St → VM.Tree (VM.TV × VM.St))) := (27, sYes) :: (refTab ++ numTab)
theorem law4Tab_ok : ∀ p ∈ law4Tab, VM.SOk ft Tryz.prog p.1 p.2 := by
  intro p hp
  rcases List.mem_cons.1 hp with rfl | hp
  · exact sOk_awake4
  · rcases List.mem_append.1 hp with hp | hp
    · exact refTab_ok p hp
    · exact numTab_ok p hp
noncomputable def law4 (N n : Nat) : VM.CallF := VM.runF Tryz.prog (VM.look law4Tab) md (fun c => VM.aDraw Tryz.prog md c) N n
theorem law4_ok (N n : Nat) : VM.COk ft Tryz.prog md (law4 N n) := VM.runF_ok (VM.tab_ok law4Tab_ok) (fun _ h => VM.aDraw_ok h) N n
end Go.Proofs.YtpchihhngpdblaaGreatDoor
