/- The machine with what it knows of sonic's functions; the examples that the laws hold up. -/
import Derived.Test.YtkkgibnoggickaaGreatDoorVmNum
import Derived.Test.YtkkgibnoggickaaGreatDoorSonC
import Derived.KernelRfl
namespace Go.Proofs.YtkkgibnoggickaaGreatDoor
open Go.RowKit Go.Sort Dg Fr
theorem sOk_common : VM.SOk ft Tryz.prog 164 VM.sGcd := VM.sGcd_ok (fun w a b h0 h1 k0 k1 => Calls.mono (sonicCommon_any a b h0 h1 k0 k1 w) (fun _ _ h => by
  obtain ⟨h, q, rfl⟩ := h
  exact ⟨h, below_drewN (Below.refl _ _) q⟩))
noncomputable def sonTab : List (FuncId × (List VM.AV → VM.St → VM.Tree (VM.TV × VM.St))) := (164, VM.sGcd) :: numTab
theorem sonTab_ok : ∀ p ∈ sonTab, VM.SOk ft Tryz.prog p.1 p.2 := by
  intro p hp
  rcases List.mem_cons.1 hp with rfl | hp
  · exact sOk_common
  · exact numTab_ok p hp
noncomputable def son (N n : Nat) : VM.CallF := VM.runF Tryz.prog (VM.look sonTab) md (fun c => VM.aDraw Tryz.prog md c) N n
theorem son_ok (N n : Nat) : VM.COk ft Tryz.prog md (son N n) := VM.runF_ok (VM.tab_ok sonTab_ok) (fun _ h => VM.aDraw_ok h) N n
theorem awake_run : (son 60 20 29 [] (VM.stOf [])).chk ft.txt (VM.env0 []).m VM.yesB = true := by kernel_rfl
theorem yes_of_chk {T : VM.FT} {P : Program} {gen : FuncId → VM.Md} {call : VM.CallF} (hc : VM.COk T P gen call) {f : FuncId} {avs : List VM.AV} {vs : List Value} {w : World} {ρ : VM.Env} {s : VM.St} (H : VM.SRel T w ρ s w) (hav : VM.All2 (VM.ARel ρ) avs vs) (hK : (call f avs s).chk T.txt ρ.m VM.yesB = true) :
    Calls P f vs.toArray w fun e w' => e = .returned (.bool true) ∧ Below w.heap.size w w' := VM.yes_of hc H hav (VM.Tree.chk_ok (fun _ _ h => h) _ _ hK)
theorem awake_any (w : World) (hE : Env w) : Calls Tryz.prog 29 #[] w fun e w' => e = .returned (.bool true) ∧ Below w.heap.size w w' := by
  have hs : VM.SRel ft w (VM.env0 []) (VM.stOf []) w := VM.SRel.start (T := ft) hE (rs := []) (l := []) trivial
  have ha : VM.All2 (VM.ARel (VM.env0 [])) ([] : List VM.AV) ([] : List Value) := trivial
  exact yes_of_chk (son_ok 60 20) hs ha awake_run
end Go.Proofs.YtkkgibnoggickaaGreatDoor
