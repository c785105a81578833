/- TopSoil holds: for all arguments the law returns true, and its arguments read as they read. The library's tables read as its text lays them. -/
import Derived.Test.YtjpfiaccgnagdaaGreatDoorTopSoilA
namespace Go.Proofs.YtjpfiaccgnagdaaGreatDoor.topSoil
open Go.ChangeShapes Go.WideShapes Go.ChangeAt Go.RowKit
theorem params_eq : Tryz.f6.params.toList.mapM (VM.argOf Tryz.prog) = some args := by kernel_rfl
theorem params_ok : ∀ t ∈ Tryz.f6.params.toList, Tryz.prog.readableRec t = true ∧ t < Tryz.prog.types.size := by
  have h : (Tryz.f6.params.toList.all fun t => Tryz.prog.readableRec t && decide (t < Tryz.prog.types.size)) = true := by kernel_rfl
  intro t ht
  have := List.all_eq_true.1 h t ht
  simpa using this
theorem lens (H : Type) (ds : List (DataW H)) (h : ds.length = 4) : Rows.topSoilSpec.fn H ds = { results := [.lit (.bool true)], args := ds } := by
  match ds, h with
  | [_, _, _, _], _ => rfl
set_option maxRecDepth 100000 in
theorem contract (H : Type) (enc : TypeId × Value → H) (W : World) (base : Nat) (vs : Array Value) (ds gs : List (DataW H)) (before : List MemPlace)
    (hval : ∀ (j : Nat) t v, Tryz.f6.params[j]? = some t → vs[j]? = some v → Value.okWide Tryz.prog W .any base t v)
    (hW : DataW.Whole enc Tryz.prog Tryz.f6.params.toList Rows.topSoilSpec.vars false W vs.toList ds gs before) (hL : laidMetH Tryz.prog laid3 W) :
    Calls Tryz.prog 6 vs W fun e W' => ∃ v, e = .returned v ∧ Rows.topSoilSpec.post enc Tryz.prog Tryz.f6 false true false false W vs v W' :=
  law_contract (s := Rows.topSoilSpec) (al := args) (ex := true) (t := 4) (top9_ok 60 20) 4 params_eq params_ok rfl (by kernel_rfl) Tryz.underlying4 (by kernel_rfl) lens rt_ok H enc W base vs ds gs before hval hW hL
set_option maxRecDepth 100000 in
theorem lifted (os : Os) (started : os.Started) (H : Type) (enc : TypeId × Value → H) :
    ReturnsInHanded {} Tryz.checked os 6 .any (fun w args => (Rows.topSoilSpec.pre enc Tryz.prog Tryz.f6 [] false w args ∧ laidMetH Tryz.prog laid3 w) ∧ sizedMet enc Tryz.prog Tryz.f6 (OpenSpec.ofChange Rows.topSoilSpec) false w args)
      (Rows.topSoilSpec.post enc Tryz.prog Tryz.f6 false true false false) := by
  refine returnsInHanded_of_change_and (C := Tryz.checked) (X := fun w _ => laidMetH Tryz.prog laid3 w) (fun _ _ _ hh h => h.of_heap hh) own started (by kernel_rfl) Tryz.func6
    (ChangeSpec.witness_at (enc := enc) (C := Tryz.checked) (os := os) (X := fun w _ => laidMetH Tryz.prog laid3 w) false (laidWorld os) #[.agg #[.int .i8 0, .int .i8 0, .int .i8 0, .int .i8 0], .agg #[.int .i8 0, .int .i8 0, .int .i8 0, .int .i8 0], .int .u8 0, .int .i8 0] 8 rfl (by kernel_rfl) (by kernel_rfl) (by kernel_rfl) (by kernel_rfl) (by kernel_rfl) (laidWorld_met os _)) ?_
  intro W base args ds gs before hval hW _ _ hL _
  exact contract H enc W base args ds gs before hval hW hL
theorem named : Tryz.prog.funcNamed "fluxmast/fluxmasttop.TopSoil" = some 6 := by kernel_rfl
theorem facts : joinedFacts Tryz.prog 6 Tryz.f6 Rows.topSoilSpec Rows.topSoilRow = true := by kernel_rfl
theorem inst : Tryz.f6.isInstance Tryz.prog Rows.topSoilRow.origin Rows.topSoilRow.targs := of_decide_eq_true (by kernel_rfl)
theorem wrap : Tryz.f6.isWrapper Tryz.prog Rows.topSoilRow.wrapper Rows.topSoilRow.mainSum := by unfold Func.isWrapper; first | (rw [if_pos (by decide +kernel)]; kernel_rfl) | (rw [if_neg (by decide +kernel)]; exact ⟨rfl, rfl⟩)
theorem proved : Rows.TopSoilSaid :=
  OpenClaim.holds_of_wide 6 Tryz.f6 rfl rfl rfl rfl rfl rfl rfl ⟨rfl, rfl, rfl, rfl, rfl⟩ rfl rfl rfl rfl rfl named Tryz.func6 facts inst wrap
    (fun os started H enc _ => lifted os started H enc)
theorem card : Rows.TopSoilCardSaid :=
  Claim7.holds_tied_plain_at .later [] [.data, .data, .data] true (true, "a8be460c51ddb9fbb71d5bdd28a9dad1bc28e91c1a8c0caeda706671bcef754c") false
    proved (fun _ h => by cases h) (by kernel_rfl) (fun _ h => by cases h) topSoil_row_tie rfl ⟨rfl, rfl⟩ (by kernel_rfl) rfl
    (fun f fn hf hfn => by
      obtain rfl : f = 6 := Option.some.inj (named.symm.trans hf) |>.symm
      obtain rfl : fn = Tryz.f6 := (Option.some.inj (Tryz.func6.symm.trans hfn)).symm
      exact ⟨by kernel_rfl, fun j t ht => by
        have h : (Tryz.f6.params.toList.all fun t => !Tryz.prog.wantsStandIn t) = true := by kernel_rfl
        have hm : t ∈ Tryz.f6.params.toList := by
          rw [← Array.getElem?_toList] at ht
          exact List.mem_of_getElem? ht
        have h2 := List.all_eq_true.1 h t hm
        show Tryz.prog.wantsStandIn t = false
        simpa using h2⟩)
    (by kernel_rfl)
#print axioms card
end Go.Proofs.YtjpfiaccgnagdaaGreatDoor.topSoil
