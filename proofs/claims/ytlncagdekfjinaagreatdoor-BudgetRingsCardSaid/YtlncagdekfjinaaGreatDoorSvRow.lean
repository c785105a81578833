import Derived.Test.YtlncagdekfjinaaGreatDoorSvA
import Derived.Test.YtlncagdekfjinaaGreatDoorVmRow
/- A law over numbers and slices of numbers, whatever their lengths. -/
namespace Go.Proofs.YtlncagdekfjinaaGreatDoor
open Go.ChangeShapes Go.WideShapes Go.RowKit
set_option maxRecDepth 100000 in
theorem law_contractS {f : FuncId} {fn : Func} {s : ChangeSpec} {t : TypeId} (n : Nat) {Ns : List Nat} {pl : List VM.Par} {gen : FuncId → VM.Md} {call : VM.CallF} (hc : VM.COk ft Tryz.prog gen call)
    (hpar : VM.parsOf Tryz.prog Ns fn.params.toList = some pl) (hpok : ∀ t ∈ fn.params.toList, Tryz.prog.readableRec t = true ∧ t < Tryz.prog.types.size) (hv : s.vars = []) (hres : fn.resultTypes = #[t]) (ht : Tryz.prog.underlying t = some .bool)
    (hn : fn.params.toList.length = n) (hfn : ∀ (H : Type) (ds : List (DataW H)), ds.length = n → s.fn H ds = { results := [.lit (.bool true)], args := ds })
    (hr : ∀ avs bs, VM.ArgsOk pl 0 avs bs → ∀ m, (call f avs (VM.stS bs)).vc ft.txt m fun r _ => r.1 = .v (.c (.bl true)))
    (H : Type) (enc : TypeId × Value → H) (W : World) (base : Nat) (args : Array Value) (ds gs : List (DataW H)) (before : List MemPlace)
    (hval : ∀ (j : Nat) t v, fn.params[j]? = some t → args[j]? = some v → Value.okWide Tryz.prog W .any base t v)
    (hW : DataW.Whole enc Tryz.prog fn.params.toList s.vars false W args.toList ds gs before) (hL : laidMetH Tryz.prog laid3 W) :
    Calls Tryz.prog f args W fun e W' => ∃ v, e = .returned v ∧ s.post enc Tryz.prog fn false true false false W args v W' := by
  have hW' := hW
  obtain ⟨p, q, hA0, hV, rfl, hfz, hnd⟩ := hW
  have hA : DataW.TrodAll enc Tryz.prog W 0 (fun _ => true) true fn.params.toList args.toList ds p := hA0
  rw [hv] at hV
  obtain ⟨rfl, rfl⟩ := trodVars_none hV
  obtain ⟨avs, bs, bl, g1, g2, g3⟩ := VM.pars_isS hpar (fun j t v e1 e2 => hval j t v (by simpa using e1) (by simpa using e2)) hA 0
  obtain ⟨p1, p2⟩ := g3 (VM.envS bl) (fun k y e => by rw [Nat.zero_add]; exact e)
  have yes := VM.yes_ofS hc (VM.SRel.startS (env2_of_laid hL) g2 p2) p1 (hr avs bs g1 _)
  rw [Array.toArray_toList] at yes
  refine yes.mono fun e W' ⟨he, hb⟩ => ⟨_, he, ?_⟩
  simp only [List.append_nil] at hW'
  exact post_true laidOut hpok hv hres ht hW' (by rw [List.append_nil]; exact hfn H ds (by rw [trodAll_len hA, hn])) hb
end Go.Proofs.YtlncagdekfjinaaGreatDoor
