/- The machine with what it knows of sonic's functions; the examples that the laws hold up. -/
import Derived.Test.YteooocleoihdbaaGreatDoorVmOf
import Derived.Test.YteooocleoihdbaaGreatDoorSonC
import Derived.KernelRfl
namespace Go.Proofs.YteooocleoihdbaaGreatDoor
open Go.RowKit Go.Sort Dg Fr
theorem sOk_common : VM.SOk ft Tryz.prog 163 VM.sGcd := VM.sGcd_ok (fun w a b h0 h1 k0 k1 => Calls.mono (sonicCommon_any a b h0 h1 k0 k1 w) (fun _ _ h => by
  obtain ⟨h, q, rfl⟩ := h
  exact ⟨h, below_drewN (Below.refl _ _) q⟩))
noncomputable def sonTab : List (FuncId × (List VM.AV → VM.St → VM.Tree (VM.TV × VM.St))) := (163, VM.sGcd) :: numTab
theorem sonTab_ok : ∀ p ∈ sonTab, VM.SOk ft Tryz.prog p.1 p.2 := by
  intro p hp
  rcases List.mem_cons.1 hp with rfl | hp
  · exact sOk_common
  · exact numTab_ok p hp
noncomputable def son (N n : Nat) : VM.CallF := VM.runF Tryz.prog (VM.look sonTab) md (fun c => VM.aDraw Tryz.prog md c) N n
theorem son_ok (N n : Nat) : VM.COk ft Tryz.prog md (son N n) := VM.runF_ok (VM.tab_ok sonTab_ok) (fun _ h => VM.aDraw_ok h) N n
theorem awake_run : (son 60 20 11 [] (VM.stOf [])).chk ft.txt (VM.env0 []).m VM.yesB = true := by kernel_rfl
theorem awake_any (w : World) (hE : Env2 w) : Calls Tryz.prog 11 #[] w fun e w' => e = .returned (.bool true) ∧ Below w.heap.size w w' := by
  have hs : VM.SRel ft w (VM.env0 []) (VM.stOf []) w := VM.SRel.start (T := ft) hE (rs := []) (l := []) trivial
  have ha : VM.All2 (VM.ARel (VM.env0 [])) ([] : List VM.AV) ([] : List Value) := trivial
  exact yes_of_chk (son_ok 60 20) hs ha awake_run
end Go.Proofs.YteooocleoihdbaaGreatDoor
