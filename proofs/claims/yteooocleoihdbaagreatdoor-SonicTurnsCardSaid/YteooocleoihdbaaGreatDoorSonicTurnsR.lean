/- SonicTurns holds: for all arguments the law returns true, and its arguments read as they read. The library's tables read as its text lays them. -/
import Derived.Test.YteooocleoihdbaaGreatDoorSonicTurnsA1
import Derived.Test.YteooocleoihdbaaGreatDoorSonicTurnsA2
import Derived.Test.YteooocleoihdbaaGreatDoorSonicTurnsA3
import Derived.Test.YteooocleoihdbaaGreatDoorSonicTurnsA4
namespace Go.Proofs.YteooocleoihdbaaGreatDoor.sonicTurns
open Go.ChangeShapes Go.WideShapes Go.ChangeAt Go.RowKit
set_option maxRecDepth 100000
theorem len_ok : (VM.rngsOf args).length ≤ VM.FU := of_decide_eq_true (by kernel_rfl)
theorem len_7 : 7 < (VM.rngsOf args).length := of_decide_eq_true (by kernel_rfl)
set_option maxHeartbeats 4000000 in
theorem rt_ok (L : List Int) (hL : VM.All2 (fun (r : Int × Int) (n : Int) => r.1 ≤ n ∧ n ≤ r.2) (VM.rngsOf args) L) : ∃ R K r, VM.All2 (fun (r : Int × Int) (n : Int) => r.1 ≤ n ∧ n ≤ r.2) R L ∧ R.length ≤ VM.FU ∧ VM.KOk (VM.valX L) R.length K ∧ VM.simp true ((law3T 60 20 3 (VM.avsOf args 0) (VM.stOf R)).ans) (VM.ssK R K) = r ∧ r.ok (VM.valX L) := by
  rcases first4 (X := VM.valX L) len_ok 0 (Nat.lt_of_lt_of_le (by decide) (Nat.le_of_lt len_7)) with ⟨_, h⟩ | ⟨nt, h⟩
  · exact boxK hL len_ok _ h run_z
  rcases first4 (X := VM.valX L) len_ok 4 len_7 with ⟨_, k⟩ | ⟨nu, k⟩
  · rcases h with h | h | h | h
    · exact boxK hL len_ok _ (kok_app h k) run0_z
    · exact boxK hL len_ok _ (kok_app h k) run1_z
    · exact boxK hL len_ok _ (kok_app h k) run2_z
    · exact boxK hL len_ok _ (kok_app h k) run3_z
  have q : VM.KOk (VM.valX L) (VM.rngsOf args).length kq := VM.kok_cons (VM.quatP_ok len_7 len_ok nt nu).1 (VM.quatP_ok len_7 len_ok nt nu).2 VM.kok_nil
  rcases h with h | h | h | h
  · rcases k with k | k | k | k
    · exact boxK hL len_ok _ (kok_app h (kok_app k q)) run0_0
    · exact boxK hL len_ok _ (kok_app h (kok_app k q)) run0_1
    · exact boxK hL len_ok _ (kok_app h (kok_app k q)) run0_2
    · exact boxK hL len_ok _ (kok_app h (kok_app k q)) run0_3
  · rcases k with k | k | k | k
    · exact boxK hL len_ok _ (kok_app h (kok_app k q)) run1_0
    · exact boxK hL len_ok _ (kok_app h (kok_app k q)) run1_1
    · exact boxK hL len_ok _ (kok_app h (kok_app k q)) run1_2
    · exact boxK hL len_ok _ (kok_app h (kok_app k q)) run1_3
  · rcases k with k | k | k | k
    · exact boxK hL len_ok _ (kok_app h (kok_app k q)) run2_0
    · exact boxK hL len_ok _ (kok_app h (kok_app k q)) run2_1
    · exact boxK hL len_ok _ (kok_app h (kok_app k q)) run2_2
    · exact boxK hL len_ok _ (kok_app h (kok_app k q)) run2_3
  · rcases k with k | k | k | k
    · exact boxK hL len_ok _ (kok_app h (kok_app k q)) run3_0
    · exact boxK hL len_ok _ (kok_app h (kok_app k q)) run3_1
    · exact boxK hL len_ok _ (kok_app h (kok_app k q)) run3_2
    · exact boxK hL len_ok _ (kok_app h (kok_app k q)) run3_3
theorem params_eq : Tryz.f3.params.toList.mapM (VM.argOf Tryz.prog) = some args := by kernel_rfl
theorem params_ok : ∀ t ∈ Tryz.f3.params.toList, Tryz.prog.readableRec t = true ∧ t < Tryz.prog.types.size := by
  have h : (Tryz.f3.params.toList.all fun t => Tryz.prog.readableRec t && decide (t < Tryz.prog.types.size)) = true := by kernel_rfl
  intro t ht
  have := List.all_eq_true.1 h t ht
  simpa using this
theorem lens (H : Type) (ds : List (DataW H)) (h : ds.length = 3) : Rows.sonicTurnsSpec.fn H ds = { results := [.lit (.bool true)], args := ds } := by
  match ds, h with
  | [_, _, _], _ => rfl
set_option maxRecDepth 100000 in
theorem contract (H : Type) (enc : TypeId × Value → H) (W : World) (base : Nat) (vs : Array Value) (ds gs : List (DataW H)) (before : List MemPlace)
    (hval : ∀ (j : Nat) t v, Tryz.f3.params[j]? = some t → vs[j]? = some v → Value.okWide Tryz.prog W .any base t v)
    (hW : DataW.Whole enc Tryz.prog Tryz.f3.params.toList Rows.sonicTurnsSpec.vars false W vs.toList ds gs before) (hL : laidMetH Tryz.prog laid3 W) :
    Calls Tryz.prog 3 vs W fun e W' => ∃ v, e = .returned v ∧ Rows.sonicTurnsSpec.post enc Tryz.prog Tryz.f3 false true false false W vs v W' :=
  law_contract (s := Rows.sonicTurnsSpec) (al := args) (ex := true) (t := 4) (law3T_ok 60 20) 3 params_eq params_ok rfl (by kernel_rfl) Tryz.underlying4 (by kernel_rfl) lens rt_ok H enc W base vs ds gs before hval hW hL
set_option maxRecDepth 100000 in
theorem lifted (os : Os) (started : os.Started) (H : Type) (enc : TypeId × Value → H) :
    ReturnsInHanded {} Tryz.checked os 3 .any (fun w args => (Rows.sonicTurnsSpec.pre enc Tryz.prog Tryz.f3 [] false w args ∧ laidMetH Tryz.prog laid3 w) ∧ sizedMet enc Tryz.prog Tryz.f3 (OpenSpec.ofChange Rows.sonicTurnsSpec) false w args)
      (Rows.sonicTurnsSpec.post enc Tryz.prog Tryz.f3 false true false false) := by
  refine returnsInHanded_of_change_and (C := Tryz.checked) (X := fun w _ => laidMetH Tryz.prog laid3 w) (fun _ _ _ hh h => h.of_heap hh) own started (by kernel_rfl) Tryz.func3
    (ChangeSpec.witness_at (enc := enc) (C := Tryz.checked) (os := os) (X := fun w _ => laidMetH Tryz.prog laid3 w) false (laidWorld os) #[.agg #[.int .i64 0, .int .i64 0, .int .i64 0, .int .i64 0], .agg #[.int .i64 0, .int .i64 0, .int .i64 0, .int .i64 0], .agg #[.int .i64 0, .int .i64 0, .int .i64 0, .int .i64 0, .int .i64 0, .int .i64 0]] 8 rfl (by kernel_rfl) (by kernel_rfl) (by kernel_rfl) (by kernel_rfl) (by kernel_rfl) (laidWorld_met os _)) ?_
  intro W base args ds gs before hval hW _ _ hL _
  exact contract H enc W base args ds gs before hval hW hL
theorem named : Tryz.prog.funcNamed "fluxmast/fluxmastlaw03.SonicTurns" = some 3 := by kernel_rfl
theorem facts : joinedFacts Tryz.prog 3 Tryz.f3 Rows.sonicTurnsSpec Rows.sonicTurnsRow = true := by kernel_rfl
theorem inst : Tryz.f3.isInstance Tryz.prog Rows.sonicTurnsRow.origin Rows.sonicTurnsRow.targs := of_decide_eq_true (by kernel_rfl)
theorem wrap : Tryz.f3.isWrapper Tryz.prog Rows.sonicTurnsRow.wrapper Rows.sonicTurnsRow.mainSum := by unfold Func.isWrapper; first | (rw [if_pos (by decide +kernel)]; kernel_rfl) | (rw [if_neg (by decide +kernel)]; exact ⟨rfl, rfl⟩)
theorem proved : Rows.SonicTurnsSaid :=
  OpenClaim.holds_of_wide 3 Tryz.f3 rfl rfl rfl rfl rfl rfl rfl ⟨rfl, rfl, rfl, rfl, rfl⟩ rfl rfl rfl rfl rfl named Tryz.func3 facts inst wrap
    (fun os started H enc _ => lifted os started H enc)
theorem card : Rows.SonicTurnsCardSaid :=
  Claim7.holds_tied_plain_at .later [] [.data, .data, .data] true (true, "15798be00cc4caccae67d9fc48c5e94e64c869f45988e5940ec122afe96e88a9") false
    proved (fun _ h => by cases h) (by kernel_rfl) (fun _ h => by cases h) sonicTurns_row_tie rfl ⟨rfl, rfl⟩ (by kernel_rfl) rfl
    (fun f fn hf hfn => by
      obtain rfl : f = 3 := Option.some.inj (named.symm.trans hf) |>.symm
      obtain rfl : fn = Tryz.f3 := (Option.some.inj (Tryz.func3.symm.trans hfn)).symm
      exact ⟨by kernel_rfl, fun j t ht => by
        have h : (Tryz.f3.params.toList.all fun t => !Tryz.prog.wantsStandIn t) = true := by kernel_rfl
        have hm : t ∈ Tryz.f3.params.toList := by
          rw [← Array.getElem?_toList] at ht
          exact List.mem_of_getElem? ht
        have h2 := List.all_eq_true.1 h t hm
        show Tryz.prog.wantsStandIn t = false
        simpa using h2⟩)
    (by kernel_rfl)
#print axioms card
end Go.Proofs.YteooocleoihdbaaGreatDoor.sonicTurns
