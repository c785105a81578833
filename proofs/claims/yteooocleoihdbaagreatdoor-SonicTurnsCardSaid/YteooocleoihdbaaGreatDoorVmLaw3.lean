/- The machine for the laws of sonic. -/
import Derived.Test.YteooocleoihdbaaGreatDoorVmSon
namespace Go.Proofs.YteooocleoihdbaaGreatDoor
open Go.RowKit Go.Sort Dg Fr
theorem sOk_awake : VM.SOk ft Tryz.prog 11 sYes := by
  intro w0 ρ s w avs vs H hav K hK
  match avs, vs, hav, hK with
  | [], [], _, hK =>
    refine Calls.mono (awake_any w (VM.SRel.env H)) ?_
    rintro e w' ⟨rfl, hb⟩
    exact ⟨⟨ρ, .v (.c (.bl true)), s, _, hK, .refl _, H.world hb, rfl, rfl⟩, hb⟩
  | _ :: _, _, _, hK => exact hK.elim
noncomputable def law3Tab : List (FuncId × (List VM.AV → VM.St → VM.Tree (VM.TV × VM.St))) := (11, sYes) :: (refTab ++ sonTab)
theorem law3Tab_ok : ∀ p ∈ law3Tab, VM.SOk ft Tryz.prog p.1 p.2 := by
  intro p hp
  rcases List.mem_cons.1 hp with rfl | hp
  · exact sOk_awake
  · rcases List.mem_append.1 hp with hp | hp
    · exact refTab_ok p hp
    · exact sonTab_ok p hp
noncomputable def law3 (N n : Nat) : VM.CallF := VM.runF Tryz.prog (VM.look law3Tab) md (fun c => VM.aDraw Tryz.prog md c) N n
theorem law3_ok (N n : Nat) : VM.COk ft Tryz.prog md (law3 N n) := VM.runF_ok (VM.tab_ok law3Tab_ok) (fun _ h => VM.aDraw_ok h) N n
end Go.Proofs.YteooocleoihdbaaGreatDoor
