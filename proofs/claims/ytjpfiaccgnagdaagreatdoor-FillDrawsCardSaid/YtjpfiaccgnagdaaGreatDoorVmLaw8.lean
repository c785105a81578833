/- The machine for the laws of fill: the examples that they hold up, and what is known of functions. -/
import Derived.Test.YtjpfiaccgnagdaaGreatDoorVmLimb
namespace Go.Proofs.YtjpfiaccgnagdaaGreatDoor
open Go.RowKit Go.Sort Dg Fr
theorem sOk_llenC : VM.SOk ft Tryz.prog 140 VM.sLlenC := VM.sLlenC_ok
  (fun w u x a hu hx ha _ => by
    obtain ⟨p, c, rfl, h1⟩ := la_at hu
    have n1 := nl_bits hx ha
    refine (length_any p c x w h1 (by omega)).mono ?_
    rintro e w' ⟨rfl, rfl⟩
    rw [nbB_eq]
    exact ⟨rfl, Below.refl _ _⟩)
/-- For runs over constants: the number of bits is looked up; a net's sum only reads. -/
noncomputable def limbTab8 : List (FuncId × (List VM.AV → VM.St → VM.Tree (VM.TV × VM.St))) := (140, VM.sLlenC) :: limbTab
theorem limbTab8_ok : ∀ p ∈ limbTab8, VM.SOk ft Tryz.prog p.1 p.2 := by
  intro p hp
  rcases List.mem_cons.1 hp with rfl | hp
  · exact sOk_llenC
  · exact limbTab_ok p hp
def md8 (f : FuncId) : VM.Md := if f = 154 then .read else md f
noncomputable def limb8 (N n : Nat) : VM.CallF := VM.runF Tryz.prog (VM.look limbTab8) md8 (fun c => VM.aDraw Tryz.prog md8 c) N n
theorem limb8_ok (N n : Nat) : VM.COk ft Tryz.prog md8 (limb8 N n) := VM.runF_ok (VM.tab_ok limbTab8_ok) (fun _ h => VM.aDraw_ok h) N n
theorem awake8_run : (limb8 60 20 14 [] (VM.stOf [])).chk ft.txt (VM.env0 []).m VM.yesB = true := by kernel_rfl
theorem sOk_awake8 : VM.SOk ft Tryz.prog 14 sYes := by
  intro w0 ρ s w avs vs H hav K hK
  match avs, vs, hav, hK with
  | [], [], _, hK =>
    have hs : VM.SRel ft w (VM.env0 []) (VM.stOf []) w := VM.SRel.start (T := ft) (VM.SRel.env H) (rs := []) (l := []) trivial
    have ha : VM.All2 (VM.ARel (VM.env0 [])) ([] : List VM.AV) ([] : List Value) := trivial
    refine Calls.mono (yes_of_chk (limb8_ok 60 20) hs ha awake8_run) ?_
    rintro e w' ⟨rfl, hb⟩
    exact ⟨⟨ρ, .v (.c (.bl true)), s, _, hK, .refl _, H.world hb, rfl, rfl⟩, hb⟩
  | _ :: _, _, _, hK => exact hK.elim
noncomputable def law8Tab : List (FuncId × (List VM.AV → VM.St → VM.Tree (VM.TV × VM.St))) := (14, sYes) :: numTab
theorem law8Tab_ok : ∀ p ∈ law8Tab, VM.SOk ft Tryz.prog p.1 p.2 := by
  intro p hp
  rcases List.mem_cons.1 hp with rfl | hp
  · exact sOk_awake8
  · exact numTab_ok p hp
noncomputable def law8 (N n : Nat) : VM.CallF := VM.runF Tryz.prog (VM.look law8Tab) md (fun c => VM.aDraw Tryz.prog md c) N n
theorem law8_ok (N n : Nat) : VM.COk ft Tryz.prog md (law8 N n) := VM.runF_ok (VM.tab_ok law8Tab_ok) (fun _ h => VM.aDraw_ok h) N n
end Go.Proofs.YtjpfiaccgnagdaaGreatDoor
