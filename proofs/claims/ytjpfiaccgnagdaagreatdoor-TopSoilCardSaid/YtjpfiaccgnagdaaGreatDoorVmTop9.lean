/- The machine for the laws of budget without the reference: the examples that they hold up, complex constants, and what is known of functions. -/
import Derived.Test.YtjpfiaccgnagdaaGreatDoorVmLimb
namespace Go.Proofs.YtjpfiaccgnagdaaGreatDoor
open Go.RowKit Go.Sort Dg Fr
theorem awake9_run : (limb 60 20 17 [] (VM.stOf [])).chk ft.txt (VM.env0 []).m VM.yesB = true := by kernel_rfl
theorem sOk_awake9 : VM.SOk ft Tryz.prog 17 sYes := sYes_ok awake9_run
theorem adds_run : (limb 60 20 40 [] (VM.stOf [])).chk ft.txt (VM.env0 []).m VM.yesB = true := by kernel_rfl
theorem sOk_adds : VM.SOk ft Tryz.prog 40 sYes := sYes_ok adds_run
theorem cx_run : (VM.cxs.all fun p => (limb 60 20 126 [.c (.cx .f32 p.1 p.2.1)] (VM.stOf [])).chk ft.txt (VM.env0 []).m (VM.waveB p.2.2.1 p.2.2.2)) = true := by kernel_rfl
theorem sOk_cplx : VM.SOk ft Tryz.prog 126 VM.sCplx := VM.sCplx_ok (limb_ok 60 20) cx_run
noncomputable def top9Tab : List (FuncId × (List VM.AV → VM.St → VM.Tree (VM.TV × VM.St))) := (17, sYes) :: (40, sYes) :: (126, VM.sCplx) :: numTab
theorem top9Tab_ok : ∀ p ∈ top9Tab, VM.SOk ft Tryz.prog p.1 p.2 := by
  intro p hp
  rcases List.mem_cons.1 hp with rfl | hp
  · exact sOk_awake9
  · rcases List.mem_cons.1 hp with rfl | hp
    · exact sOk_adds
    · rcases List.mem_cons.1 hp with rfl | hp
      · exact sOk_cplx
      · exact numTab_ok p hp
noncomputable def top9 (N n : Nat) : VM.CallF := VM.runF Tryz.prog (VM.look top9Tab) md (fun c => VM.aDraw Tryz.prog md c) N n
theorem top9_ok (N n : Nat) : VM.COk ft Tryz.prog md (top9 N n) := VM.runF_ok (VM.tab_ok top9Tab_ok) (fun _ h => VM.aDraw_ok h) N n
end Go.Proofs.YtjpfiaccgnagdaaGreatDoor
