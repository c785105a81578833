/- BudgetTurns holds: for all arguments the law returns true, and its arguments read as they read. The library's tables read as its text lays them. -/
import Derived.Test.YtlncagdekfjinaaGreatDoorBudTurns
import Derived.Test.YtlncagdekfjinaaGreatDoorBudOk
import Derived.Test.YtlncagdekfjinaaGreatDoorSvRow
namespace Go.Proofs.YtlncagdekfjinaaGreatDoor.budgetTurns
open Go.ChangeShapes Go.WideShapes Go.ChangeAt Go.RowKit
def pars : List VM.Par := [.sl [.u8] 1, .num (.one .u16)]
theorem params_eq : VM.parsOf Tryz.prog [1, 1] Tryz.f4.params.toList = some pars := by kernel_rfl
theorem params_ok : ∀ t ∈ Tryz.f4.params.toList, Tryz.prog.readableRec t = true ∧ t < Tryz.prog.types.size := by
  have h : (Tryz.f4.params.toList.all fun t => Tryz.prog.readableRec t && decide (t < Tryz.prog.types.size)) = true := by kernel_rfl
  intro t ht
  have := List.all_eq_true.1 h t ht
  simpa using this
theorem lens (H : Type) (ds : List (DataW H)) (h : ds.length = 2) : Rows.budgetTurnsSpec.fn H ds = { results := [.lit (.bool true)], args := ds } := by
  match ds, h with
  | [_, _], _ => rfl
set_option maxRecDepth 100000 in
theorem run_ok (avs : List VM.AV) (bs : List (Option (List VM.CV))) (h : VM.ArgsOk pars 0 avs bs) : ∀ m, (bud.call 300 20 4 avs (VM.stS bs)).vc ft.txt m fun r _ => r.1 = .v (.c (.bl true)) := by
  intro m
  obtain ⟨a, al, b, bs', rfl, rfl, h1, a2, al2, b2, bs2, rfl, rfl, ⟨rfl, r, hr, rfl⟩, rfl, rfl⟩ := h
  have hb : ∀ x, b = [x] → (b ++ ([] ++ []))[0]? = some x := fun x e => by subst e; rfl
  obtain ⟨v, zs, rfl, hv, hz, -⟩ := VM.Par.ints h1 hb
  exact bud.turns_ok 300 14 v zs r _ (VM.Wf.stS _) hv (by decide) hz hr.1 hr.2
set_option maxRecDepth 100000 in
theorem contract (H : Type) (enc : TypeId × Value → H) (W : World) (base : Nat) (vs : Array Value) (ds gs : List (DataW H)) (before : List MemPlace)
    (hval : ∀ (j : Nat) t v, Tryz.f4.params[j]? = some t → vs[j]? = some v → Value.okWide Tryz.prog W .any base t v)
    (hW : DataW.Whole enc Tryz.prog Tryz.f4.params.toList Rows.budgetTurnsSpec.vars false W vs.toList ds gs before) (hL : laidMetH Tryz.prog laid3 W) :
    Calls Tryz.prog 4 vs W fun e W' => ∃ v, e = .returned v ∧ Rows.budgetTurnsSpec.post enc Tryz.prog Tryz.f4 false true false false W vs v W' :=
  law_contractS (s := Rows.budgetTurnsSpec) (t := 4) 2 (bud.call_ok 300 20) params_eq params_ok rfl (by kernel_rfl) Tryz.underlying4 (by kernel_rfl) lens run_ok H enc W base vs ds gs before hval hW hL
set_option maxRecDepth 100000 in
theorem lifted (os : Os) (started : os.Started) (H : Type) (enc : TypeId × Value → H) :
    ReturnsInHanded {} Tryz.checked os 4 .any (fun w args => (Rows.budgetTurnsSpec.pre enc Tryz.prog Tryz.f4 [] false w args ∧ laidMetH Tryz.prog laid3 w) ∧ sizedMet enc Tryz.prog Tryz.f4 (OpenSpec.ofChange Rows.budgetTurnsSpec) false w args)
      (Rows.budgetTurnsSpec.post enc Tryz.prog Tryz.f4 false true false false) := by
  refine returnsInHanded_of_change_and (C := Tryz.checked) (X := fun w _ => laidMetH Tryz.prog laid3 w) (fun _ _ _ hh h => h.of_heap hh) own started (by kernel_rfl) Tryz.func4
    (ChangeSpec.witness_at (enc := enc) (C := Tryz.checked) (os := os) (X := fun w _ => laidMetH Tryz.prog laid3 w) false (laidWorld os) #[.slice none 0 0, .int .u16 0] 8 rfl (by kernel_rfl) (by kernel_rfl) (by kernel_rfl) (by kernel_rfl) (by kernel_rfl) (laidWorld_met os _)) ?_
  intro W base args ds gs before hval hW _ _ hL _
  exact contract H enc W base args ds gs before hval hW hL
theorem named : Tryz.prog.funcNamed "fluxmast/fluxmastlaw09.BudgetTurns" = some 4 := by kernel_rfl
theorem facts : joinedFacts Tryz.prog 4 Tryz.f4 Rows.budgetTurnsSpec Rows.budgetTurnsRow = true := by kernel_rfl
theorem inst : Tryz.f4.isInstance Tryz.prog Rows.budgetTurnsRow.origin Rows.budgetTurnsRow.targs := of_decide_eq_true (by kernel_rfl)
theorem wrap : Tryz.f4.isWrapper Tryz.prog Rows.budgetTurnsRow.wrapper Rows.budgetTurnsRow.mainSum := by unfold Func.isWrapper; first | (rw [if_pos (by decide +kernel)]; kernel_rfl) | (rw [if_neg (by decide +kernel)]; exact ⟨rfl, rfl⟩)
theorem proved : Rows.BudgetTurnsSaid :=
  OpenClaim.holds_of_wide 4 Tryz.f4 rfl rfl rfl rfl rfl rfl rfl ⟨rfl, rfl, rfl, rfl, rfl⟩ rfl rfl rfl rfl rfl named Tryz.func4 facts inst wrap
    (fun os started H enc _ => lifted os started H enc)
theorem card : Rows.BudgetTurnsCardSaid :=
  Claim7.holds_tied_plain_at .later [] [.data, .data, .data] true (true, "c4741a7a74a0ce953386e6aba7e576fbe8ed960a97f0acc0e4c4c75c0a409ec2") false
    proved (fun _ h => by cases h) (by kernel_rfl) (fun _ h => by cases h) budgetTurns_row_tie rfl ⟨rfl, rfl⟩ (by kernel_rfl) rfl
    (fun f fn hf hfn => by
      obtain rfl : f = 4 := Option.some.inj (named.symm.trans hf) |>.symm
      obtain rfl : fn = Tryz.f4 := (Option.some.inj (Tryz.func4.symm.trans hfn)).symm
      exact ⟨by kernel_rfl, fun j t ht => by
        have h : (Tryz.f4.params.toList.all fun t => !Tryz.prog.wantsStandIn t) = true := by kernel_rfl
        have hm : t ∈ Tryz.f4.params.toList := by
          rw [← Array.getElem?_toList] at ht
          exact List.mem_of_getElem? ht
        have h2 := List.all_eq_true.1 h t hm
        show Tryz.prog.wantsStandIn t = false
        simpa using h2⟩)
    (by kernel_rfl)
#print axioms card
end Go.Proofs.YtlncagdekfjinaaGreatDoor.budgetTurns
