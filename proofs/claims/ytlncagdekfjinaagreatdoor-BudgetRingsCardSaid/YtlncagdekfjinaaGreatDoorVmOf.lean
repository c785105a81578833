/- The machine: runs over constants; no reference numbers here. -/
import Derived.Test.YtlncagdekfjinaaGreatDoorVmNum
import Derived.KernelRfl
namespace Go.Proofs.YtlncagdekfjinaaGreatDoor
open Go.RowKit Go.Sort Dg Fr
theorem yes_of_chk {T : VM.FT} {P : Program} {gen : FuncId → VM.Md} {call : VM.CallF} (hc : VM.COk T P gen call) {f : FuncId} {avs : List VM.AV} {vs : List Value} {w : World} {ρ : VM.Env} {s : VM.St} (H : VM.SRel T w ρ s w) (hav : VM.All2 (VM.ARel ρ) avs vs) (hK : (call f avs s).chk T.txt ρ.m VM.yesB = true) :
    Calls P f vs.toArray w fun e w' => e = .returned (.bool true) ∧ Below w.heap.size w w' := VM.yes_of hc H hav (VM.Tree.chk_ok (fun _ _ h => h) _ _ hK)
def sYes : List VM.AV → VM.St → VM.Tree (VM.TV × VM.St) := fun avs s => match avs with
  | [] => .leaf (.v (.c (.bl true)), s)
  | _ :: _ => .fail "yes"
end Go.Proofs.YtlncagdekfjinaaGreatDoor
