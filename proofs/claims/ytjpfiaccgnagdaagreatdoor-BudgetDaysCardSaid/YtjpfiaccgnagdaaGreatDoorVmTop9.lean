/- The machine for the laws of budget without the reference: the examples that they hold up, complex constants, and what is known of functions. -/
import Derived.Test.YtjpfiaccgnagdaaGreatDoorVmLimb
namespace Go.Proofs.YtjpfiaccgnagdaaGreatDoor
open Go.RowKit Go.Sort Dg Fr
theorem awake9_run : (limb 60 20 17 [] (VM.stOf [])).chk ft.txt (VM.env0 []).m VM.yesB = true := by kernel_rfl
theorem sOk_awake9 : VM.SOk ft Tryz.prog 17 sYes := sYes_ok awake9_run
theorem adds_run : (limb 60 20 40 [] (VM.stOf [])).chk ft.txt (VM.env0 []).m VM.yesB = true := by kernel_rfl
theorem sOk_adds : VM.SOk ft Tryz.prog 40 sYes := sYes_ok adds_run
theorem cx_run : (VM.cxs.all fun p => (limb 60 20 126 [.c (.cx .f32 p.1 p.2.1)] (VM.stOf [])).chk ft.txt (VM.env0 []).m (VM.waveB p.2.2.1 p.2.2.2)) = true := by kernel_rfl
theorem sOk_cplx : VM.SOk ft Tryz.prog 126 VM.sCplx := VM.sCplx_ok (limb_ok 60 20) cx_run
theorem fit_op : ∀ (o : VM.So) (a b : Nat) (x y : Rat), VM.Fits a x → VM.Fits b y → VM.Fits (o.size a b) (o.val x y) := fun o a b x y hx hy => by
  cases o with
  | add => exact Fit.add hx hy
  | mul => exact Fit.mul hx hy
  | neg => exact Fit.neg hx
theorem wmul_run : ((limb 60 20 72 [.agg (VM.fcs 0 ++ VM.fcs 1), .agg (VM.fcs 2 ++ VM.fcs 3)] (VM.sG false VM.QB)).bind fun r => .leaf (VM.outK false r)) = VM.gtree VM.stMul 4 (.leaf (some (9, 10))) := by kernel_rfl
theorem sOk_wmul : VM.SOk ft Tryz.prog 72 (VM.sW false VM.stMul 9 10) := VM.sW_ok (limb_ok 60 20) fit_op rfl (by decide) wmul_run
theorem wadd_run : ((limb 60 20 76 [.agg (VM.fcs 0 ++ VM.fcs 1), .agg (VM.fcs 2 ++ VM.fcs 3)] (VM.sG false VM.QB)).bind fun r => .leaf (VM.outK false r)) = VM.gtree VM.stAdd 4 (.leaf (some (4, 5))) := by kernel_rfl
theorem sOk_wadd : VM.SOk ft Tryz.prog 76 (VM.sW false VM.stAdd 4 5) := VM.sW_ok (limb_ok 60 20) fit_op rfl (by decide) wadd_run
noncomputable def top9Tab : List (FuncId × (List VM.AV → VM.St → VM.Tree (VM.TV × VM.St))) := (17, sYes) :: (40, sYes) :: (126, VM.sCplx) :: (72, VM.sW false VM.stMul 9 10) :: (76, VM.sW false VM.stAdd 4 5) :: numTab
theorem top9Tab_ok : ∀ p ∈ top9Tab, VM.SOk ft Tryz.prog p.1 p.2 := by
  intro p hp
  rcases List.mem_cons.1 hp with rfl | hp
  · exact sOk_awake9
  rcases List.mem_cons.1 hp with rfl | hp
  · exact sOk_adds
  rcases List.mem_cons.1 hp with rfl | hp
  · exact sOk_cplx
  rcases List.mem_cons.1 hp with rfl | hp
  · exact sOk_wmul
  rcases List.mem_cons.1 hp with rfl | hp
  · exact sOk_wadd
  exact numTab_ok p hp
noncomputable def top9 (N n : Nat) : VM.CallF := VM.runF Tryz.prog (VM.look top9Tab) md (fun c => VM.aDraw Tryz.prog md c) N n
theorem top9_ok (N n : Nat) : VM.COk ft Tryz.prog md (top9 N n) := VM.runF_ok (VM.tab_ok top9Tab_ok) (fun _ h => VM.aDraw_ok h) N n
end Go.Proofs.YtjpfiaccgnagdaaGreatDoor
