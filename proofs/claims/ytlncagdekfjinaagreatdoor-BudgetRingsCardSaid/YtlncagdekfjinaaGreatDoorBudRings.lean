import Derived.Test.YtlncagdekfjinaaGreatDoorBud0
namespace Go.Proofs.YtlncagdekfjinaaGreatDoor.bud
open Go.RowKit Go.Proofs.VM
noncomputable section
set_option maxRecDepth 100000
set_option linter.unusedSimpArgs false
variable {txt : Rat → List UInt8} {m : M}
def smallB (most z : Int) : Bool := decide (-most ≤ z) && decide (z ≤ most)
theorem allSmall_ok (N n : Nat) (most : Int) (v : CV) (zs : List Int) (s : St) (hw : Wf s) (hv : Ints s v .i64 zs) (hN : zs.length + 1 < N) (h0 : -9223372036854775807 ≤ most) (h1 : most ≤ 9223372036854775807) (hl : zs.length < 9223372036854775807) :
    (call N (n+2) 71 [.c (.il .i64 most), .c v] s).vc txt m fun r m' => r = (.v (.c (.bl (zs.all (smallB most)))), s) ∧ m' = m := by
  have hlen := Vw.blen hv u24
  have wf := hw
  have hw := hw.self
  have hneg : IntKind.i64.wrap (0 - most) = -most := by rw [wrap64 (by omega) (by omega)]; omega
  rw [call_body _ _ _ _ _ rfl Tryz.func71 rfl]
  simp only [Tryz.f71]
  simp only [code_seq, seqK_normal, seqK_exit, seqK_ret, regK_leaf, code_region, code_cond, condK_true, condK_false, code_block, blkK_normal, blkK_ret, blkK_exit, code_skip, code_exit, code_ret, code_label, code_scope, bodyK_normal, bodyK_ret, retK_pair, aOpsY, aStepY, yldOf, isDefer, aStep, stepGen, stepCall, stepStore, guardOf, aOpV, opMove, opBin, opUn, opPick, opLoad, opIndexAddr, opExtract, opCall, opConv, atIx, lc, lf, lfb, lo, evalA, evalC, evalO, evalAs, evalCs, ofValue, ofCell, Option.map_some, Option.map_none, putT, aCallee, aUn, bLit, aExtract, Tr.get_set_if, TL.start_get, List.length_cons, List.length_nil, List.getElem?_cons_succ, List.getElem?_cons_zero, List.getElem?_nil, List.map_nil, List.map_cons, List.append_nil, List.nil_append, List.cons_append, bind_leaf, aBin, numOf, isShift, cmp_leq, cmp_lss, cmp_gtr, cmp_geq, cmp_eql, cmp_neq, arith_add, arith_sub, arith_mul, isLit, aArith, aPick, Option.elim_some, Option.elim_none, opsNo, Nat.reduceAdd, Nat.reduceSub, Nat.reduceLeDiff, Nat.reduceLT, Nat.reduceEqDiff, reduceIte, Bool.false_eq_true, Bool.true_eq_false, Bool.not_true, Bool.not_false, List.getElem?_toArray, Option.bind_some, Option.bind_none, endBody, aResults, aResL, aRes1, isV_c, isV_agg, isV_nil, isV_cons, isA_c, isA_agg, isC_il, isC_bl, isC_sl, isC_nsl, isC_sg, isC_sc, isC_pt, isC_npt, isC_fc, List.all_cons, List.all_nil, Bool.false_and, Bool.true_and, Bool.and_true, Bool.and_false, Bool.true_or, Bool.false_or, decide_true, decide_false, eq_self_iff_true, call_def, yld_def, opBuildSlice, evalPs, oneWord, runPl, takeG, aTake, isPure, flushL, List.isEmpty_nil, Bool.true_or, Bool.or_true, isAsk, keyG, keyK, nb_new, vc_leaf_eq, hlen]
  generalize ht0 : ((((TL.start 20 [AV.c (CV.il IntKind.i64 most), AV.c v]).set 4 (TV.v (AV.c (CV.bl false)))).set 7 (TV.v (AV.c v))).set 8 (TV.v (AV.c (CV.il IntKind.i64 zs.length)))).set 9 (TV.v (AV.c (CV.il IntKind.i64 0))) = t0
  have ha0 : t0.all 20 := by subst ht0; exact Tr.all_set (Tr.all_set (Tr.all_set (Tr.all_set (TL.start_all _ _ (by simp)) _ _) _ _) _ _) _ _
  have g0 : t0.get 0 = some (.v (.c (.il .i64 most))) := by subst ht0; rfl
  have g7 : t0.get 7 = some (.v (.c v)) := by subst ht0; rfl
  have g8 : t0.get 8 = some (.v (.c (.il .i64 zs.length))) := by subst ht0; rfl
  have g9 : t0.get 9 = some (.v (.c (.il .i64 0))) := by subst ht0; rfl
  clear ht0
  simp only [Tree.vc_bind]
  rw [code_loop]
  refine vc_loop (fun k c m' => ∃ i, k = zs.length - i ∧ i ≤ zs.length ∧ (zs.take i).all (smallB most) = true ∧ Sets [4, 6, 9, 10, 11, 12, 13, 14, 15, 16, 17, 18, 19] t0 c.s.tmps ∧ c.s.tmps.get 9 = some (.v (.c (.il .i64 (i : Nat)))) ∧ c.s.st = s ∧ c.ds = [] ∧ m' = m) ?_ N zs.length _ m (by omega) ⟨0, by simp, by simp, by simp, .refl, g9, rfl, rfl, rfl⟩
  rintro k ⟨⟨t, st⟩, ds⟩ m' ⟨i, rfl, hi, hall, hS, h9, hst, hds, rfl⟩
  simp only at hS h9 hst hds
  subst hst hds
  have k0 := (hS.get (i := 0) (by decide)).trans g0
  have k7 := (hS.get (i := 7) (by decide)).trans g7
  have k8 := (hS.get (i := 8) (by decide)).trans g8
  have hm := (hS.all ha0).map
  by_cases hlt : i < zs.length
  · obtain ⟨b, off, hidx, hload⟩ := Ints.at_ hv u24 z3 r3 (by omega)
    have d1 : decide ((i : Int) < (zs.length : Int)) = true := by simpa using hlt
    have hx := hidx .i64 i hlt
    have hy := hload i hlt
    have hb := fun (x a b : Int) => between_eq N n x a b st wf
    have hinc : IntKind.i64.wrap ((i : Int) + 1) = ((i + 1 : Nat) : Int) := by rw [wrap64 (by omega) (by omega)]; rfl
    have htk : zs.take (i + 1) = zs.take i ++ [zs[i]] := List.take_succ_eq_append_getElem hlt
    cases hbb : (decide (-most ≤ zs[i]) && decide (zs[i] ≤ most)) with
    | true =>
      simp only [code_seq, seqK_normal, seqK_exit, seqK_ret, regK_leaf, code_region, code_cond, condK_true, condK_false, code_block, blkK_normal, blkK_ret, blkK_exit, code_skip, code_exit, code_ret, code_label, code_scope, bodyK_normal, bodyK_ret, retK_pair, aOpsY, aStepY, yldOf, isDefer, aStep, stepGen, stepCall, stepStore, guardOf, aOpV, opMove, opBin, opUn, opPick, opLoad, opIndexAddr, opExtract, opCall, opConv, atIx, lc, lf, lfb, lo, evalA, evalC, evalO, evalAs, evalCs, ofValue, ofCell, Option.map_some, Option.map_none, putT, aCallee, aUn, bLit, aExtract, Tr.get_set_if, TL.start_get, List.length_cons, List.length_nil, List.getElem?_cons_succ, List.getElem?_cons_zero, List.getElem?_nil, List.map_nil, List.map_cons, List.append_nil, List.nil_append, List.cons_append, bind_leaf, aBin, numOf, isShift, cmp_leq, cmp_lss, cmp_gtr, cmp_geq, cmp_eql, cmp_neq, arith_add, arith_sub, arith_mul, isLit, aArith, aPick, Option.elim_some, Option.elim_none, opsNo, Nat.reduceAdd, Nat.reduceSub, Nat.reduceLeDiff, Nat.reduceLT, Nat.reduceEqDiff, reduceIte, Bool.false_eq_true, Bool.true_eq_false, Bool.not_true, Bool.not_false, List.getElem?_toArray, Option.bind_some, Option.bind_none, endBody, aResults, aResL, aRes1, isV_c, isV_agg, isV_nil, isV_cons, isA_c, isA_agg, isC_il, isC_bl, isC_sl, isC_nsl, isC_sg, isC_sc, isC_pt, isC_npt, isC_fc, List.all_cons, List.all_nil, Bool.false_and, Bool.true_and, Bool.and_true, Bool.and_false, Bool.true_or, Bool.false_or, decide_true, decide_false, eq_self_iff_true, call_def, yld_def, opBuildSlice, evalPs, oneWord, runPl, takeG, aTake, isPure, flushL, List.isEmpty_nil, Bool.true_or, Bool.or_true, isAsk, keyG, keyK, nb_new, vc_leaf_eq, k0, k7, k8, h9, hm, d1, hx, hy, hneg, b64, hb, hinc, hbb, vc_leaf_eq]
      refine ⟨zs.length - (i + 1), by omega, i + 1, rfl, hlt, ?_, ?_, rfl, trivial, trivial, trivial⟩
      · rw [htk, List.all_append, hall]; simpa [smallB] using hbb
      · repeat (refine Sets.set ?_ _ (by decide) _)
        exact hS
    | false =>
      simp only [code_seq, seqK_normal, seqK_exit, seqK_ret, regK_leaf, code_region, code_cond, condK_true, condK_false, code_block, blkK_normal, blkK_ret, blkK_exit, code_skip, code_exit, code_ret, code_label, code_scope, bodyK_normal, bodyK_ret, retK_pair, aOpsY, aStepY, yldOf, isDefer, aStep, stepGen, stepCall, stepStore, guardOf, aOpV, opMove, opBin, opUn, opPick, opLoad, opIndexAddr, opExtract, opCall, opConv, atIx, lc, lf, lfb, lo, evalA, evalC, evalO, evalAs, evalCs, ofValue, ofCell, Option.map_some, Option.map_none, putT, aCallee, aUn, bLit, aExtract, Tr.get_set_if, TL.start_get, List.length_cons, List.length_nil, List.getElem?_cons_succ, List.getElem?_cons_zero, List.getElem?_nil, List.map_nil, List.map_cons, List.append_nil, List.nil_append, List.cons_append, bind_leaf, aBin, numOf, isShift, cmp_leq, cmp_lss, cmp_gtr, cmp_geq, cmp_eql, cmp_neq, arith_add, arith_sub, arith_mul, isLit, aArith, aPick, Option.elim_some, Option.elim_none, opsNo, Nat.reduceAdd, Nat.reduceSub, Nat.reduceLeDiff, Nat.reduceLT, Nat.reduceEqDiff, reduceIte, Bool.false_eq_true, Bool.true_eq_false, Bool.not_true, Bool.not_false, List.getElem?_toArray, Option.bind_some, Option.bind_none, endBody, aResults, aResL, aRes1, isV_c, isV_agg, isV_nil, isV_cons, isA_c, isA_agg, isC_il, isC_bl, isC_sl, isC_nsl, isC_sg, isC_sc, isC_pt, isC_npt, isC_fc, List.all_cons, List.all_nil, Bool.false_and, Bool.true_and, Bool.and_true, Bool.and_false, Bool.true_or, Bool.false_or, decide_true, decide_false, eq_self_iff_true, call_def, yld_def, opBuildSlice, evalPs, oneWord, runPl, takeG, aTake, isPure, flushL, List.isEmpty_nil, Bool.true_or, Bool.or_true, isAsk, keyG, keyK, nb_new, vc_leaf_eq, k0, k7, k8, h9, hm, d1, hx, hy, hneg, b64, hb, hinc, hbb, vc_leaf_eq, hw]
      refine ⟨?_, trivial⟩
      have : zs.all (smallB most) = false := by
        rw [List.all_eq_false]
        exact ⟨zs[i], List.getElem_mem hlt, by simp only [smallB, hbb]; decide⟩
      rw [this]
  · have d1 : decide ((i : Int) < (zs.length : Int)) = false := by simpa using hlt
    have : zs.take i = zs := List.take_of_length_le (by omega)
    rw [this] at hall
    simp only [code_seq, seqK_normal, seqK_exit, seqK_ret, regK_leaf, code_region, code_cond, condK_true, condK_false, code_block, blkK_normal, blkK_ret, blkK_exit, code_skip, code_exit, code_ret, code_label, code_scope, bodyK_normal, bodyK_ret, retK_pair, aOpsY, aStepY, yldOf, isDefer, aStep, stepGen, stepCall, stepStore, guardOf, aOpV, opMove, opBin, opUn, opPick, opLoad, opIndexAddr, opExtract, opCall, opConv, atIx, lc, lf, lfb, lo, evalA, evalC, evalO, evalAs, evalCs, ofValue, ofCell, Option.map_some, Option.map_none, putT, aCallee, aUn, bLit, aExtract, Tr.get_set_if, TL.start_get, List.length_cons, List.length_nil, List.getElem?_cons_succ, List.getElem?_cons_zero, List.getElem?_nil, List.map_nil, List.map_cons, List.append_nil, List.nil_append, List.cons_append, bind_leaf, aBin, numOf, isShift, cmp_leq, cmp_lss, cmp_gtr, cmp_geq, cmp_eql, cmp_neq, arith_add, arith_sub, arith_mul, isLit, aArith, aPick, Option.elim_some, Option.elim_none, opsNo, Nat.reduceAdd, Nat.reduceSub, Nat.reduceLeDiff, Nat.reduceLT, Nat.reduceEqDiff, reduceIte, Bool.false_eq_true, Bool.true_eq_false, Bool.not_true, Bool.not_false, List.getElem?_toArray, Option.bind_some, Option.bind_none, endBody, aResults, aResL, aRes1, isV_c, isV_agg, isV_nil, isV_cons, isA_c, isA_agg, isC_il, isC_bl, isC_sl, isC_nsl, isC_sg, isC_sc, isC_pt, isC_npt, isC_fc, List.all_cons, List.all_nil, Bool.false_and, Bool.true_and, Bool.and_true, Bool.and_false, Bool.true_or, Bool.false_or, decide_true, decide_false, eq_self_iff_true, call_def, yld_def, opBuildSlice, evalPs, oneWord, runPl, takeG, aTake, isPure, flushL, List.isEmpty_nil, Bool.true_or, Bool.or_true, isAsk, keyG, keyK, nb_new, vc_leaf_eq, k0, k7, k8, h9, hm, d1, vc_leaf_eq, hw, hall]
    exact ⟨trivial, trivial⟩
end
end Go.Proofs.YtlncagdekfjinaaGreatDoor.bud

namespace Go.Proofs.YtlncagdekfjinaaGreatDoor.bud
open Go.RowKit Go.Proofs.VM
noncomputable section
set_option maxRecDepth 100000
set_option linter.unusedSimpArgs false
variable {txt : Rat → List UInt8} {m : M}

/-- IndexFunc over whole numbers: where p first holds. -/
theorem indexFunc_ok (N n : Nat) (v f : CV) (zs : List Int) (p : Int → Bool) (g : FuncId) (caps : List CV) (s : St) (hw : Wf s) (hv : Ints s v .i64 zs) (hN : zs.length < N) (hl : zs.length < 9223372036854775807)
    (hf : f = .fn g ∧ caps = []) (hb : bodied Tryz.prog g = true) (hp : ∀ z ∈ zs, call N (n+1) g [.c (.il .i64 z)] s = .leaf (.v (.c (.bl (p z))), s)) :
    (call N (n+2) 133 [.c v, .c f] s).vc txt m fun r m' => r = (.v (.c (.il .i64 (if zs.any p = true then ((zs.findIdx p : Nat) : Int) else -1))), s) ∧ m' = m := by
  obtain ⟨rfl, rfl⟩ := hf
  have hlen := Vw.blen hv u24
  have hw := hw.self
  rw [call_body _ _ _ _ _ rfl Tryz.func133 rfl]
  simp only [Tryz.f133]
  simp only [code_seq, seqK_normal, seqK_exit, seqK_ret, regK_leaf, code_region, code_cond, condK_true, condK_false, code_block, blkK_normal, blkK_ret, blkK_exit, code_skip, code_exit, code_ret, code_label, code_scope, bodyK_normal, bodyK_ret, retK_pair, aOpsY, aStepY, yldOf, isDefer, aStep, stepGen, stepCall, stepStore, guardOf, aOpV, opMove, opBin, opUn, opPick, opLoad, opIndexAddr, opExtract, opCall, opConv, atIx, lc, lf, lfb, lo, evalA, evalC, evalO, evalAs, evalCs, ofValue, ofCell, Option.map_some, Option.map_none, putT, aCallee, aUn, bLit, aExtract, Tr.get_set_if, TL.start_get, List.length_cons, List.length_nil, List.getElem?_cons_succ, List.getElem?_cons_zero, List.getElem?_nil, List.map_nil, List.map_cons, List.append_nil, List.nil_append, List.cons_append, bind_leaf, aBin, numOf, isShift, cmp_leq, cmp_lss, cmp_gtr, cmp_geq, cmp_eql, cmp_neq, arith_add, arith_sub, arith_mul, isLit, aArith, aPick, Option.elim_some, Option.elim_none, opsNo, Nat.reduceAdd, Nat.reduceSub, Nat.reduceLeDiff, Nat.reduceLT, Nat.reduceEqDiff, reduceIte, Bool.false_eq_true, Bool.true_eq_false, Bool.not_true, Bool.not_false, List.getElem?_toArray, Option.bind_some, Option.bind_none, endBody, aResults, aResL, aRes1, isV_c, isV_agg, isV_nil, isV_cons, isA_c, isA_agg, isC_il, isC_bl, isC_sl, isC_nsl, isC_sg, isC_sc, isC_pt, isC_npt, isC_fc, List.all_cons, List.all_nil, Bool.false_and, Bool.true_and, Bool.and_true, Bool.and_false, Bool.true_or, Bool.false_or, decide_true, decide_false, eq_self_iff_true, call_def, yld_def, opBuildSlice, evalPs, oneWord, runPl, takeG, aTake, isPure, flushL, List.isEmpty_nil, Bool.true_or, Bool.or_true, isAsk, keyG, keyK, nb_new, vc_leaf_eq, hlen]
  simp only [Tree.vc_bind]
  rw [code_loop]
  refine vc_range [4, 5, 8, 9, 10, 11, 12, 13, 14, 15, 16, 17, 18] [(0, .v (.c v)), (1, .v (.c (.fn g))), (7, .v (.c (.il .i64 zs.length)))] 19 8 zs.length (fun i t st m' => st = s ∧ m' = m ∧ ∀ j, j < i → ∀ h : j < zs.length, p zs[j] = false) (by simp) (by simp only [List.forall_mem_cons]; exact ⟨rfl, rfl, rfl, fun _ h => by cases h⟩) (by simp only [Tr.all_set_iff]; exact TL.start_all _ _ (by simp)) rfl hN ⟨rfl, rfl, by omega⟩ ?_
  rintro i t st m' hi hfac hm hta hc ⟨rfl, rfl, hpre⟩
  simp only [List.forall_mem_cons] at hfac
  obtain ⟨k0, k1, k7, -⟩ := hfac
  by_cases hlt : i < zs.length
  · obtain ⟨b, off, -, hidx, hload⟩ := Ints.at2 hv u24 z3 r3 (by omega)
    have d1 : decide ((i : Int) < (zs.length : Int)) = true := by simpa using hlt
    have hx := hidx .i64 i hlt
    have hy := hload i hlt
    have hcall := hp zs[i] (List.getElem_mem hlt)
    have hinc : IntKind.i64.wrap ((i : Int) + 1) = ((i + 1 : Nat) : Int) := by rw [wrap64 (by omega) (by omega)]; rfl
    cases hbb : p zs[i] with
    | true =>
      rw [hbb] at hcall
      simp only [code_seq, seqK_normal, seqK_exit, seqK_ret, regK_leaf, code_region, code_cond, condK_true, condK_false, code_block, blkK_normal, blkK_ret, blkK_exit, code_skip, code_exit, code_ret, code_label, code_scope, bodyK_normal, bodyK_ret, retK_pair, aOpsY, aStepY, yldOf, isDefer, aStep, stepGen, stepCall, stepStore, guardOf, aOpV, opMove, opBin, opUn, opPick, opLoad, opIndexAddr, opExtract, opCall, opConv, atIx, lc, lf, lfb, lo, evalA, evalC, evalO, evalAs, evalCs, ofValue, ofCell, Option.map_some, Option.map_none, putT, aCallee, aUn, bLit, aExtract, Tr.get_set_if, TL.start_get, List.length_cons, List.length_nil, List.getElem?_cons_succ, List.getElem?_cons_zero, List.getElem?_nil, List.map_nil, List.map_cons, List.append_nil, List.nil_append, List.cons_append, bind_leaf, aBin, numOf, isShift, cmp_leq, cmp_lss, cmp_gtr, cmp_geq, cmp_eql, cmp_neq, arith_add, arith_sub, arith_mul, isLit, aArith, aPick, Option.elim_some, Option.elim_none, opsNo, Nat.reduceAdd, Nat.reduceSub, Nat.reduceLeDiff, Nat.reduceLT, Nat.reduceEqDiff, reduceIte, Bool.false_eq_true, Bool.true_eq_false, Bool.not_true, Bool.not_false, List.getElem?_toArray, Option.bind_some, Option.bind_none, endBody, aResults, aResL, aRes1, isV_c, isV_agg, isV_nil, isV_cons, isA_c, isA_agg, isC_il, isC_bl, isC_sl, isC_nsl, isC_sg, isC_sc, isC_pt, isC_npt, isC_fc, List.all_cons, List.all_nil, Bool.false_and, Bool.true_and, Bool.and_true, Bool.and_false, Bool.true_or, Bool.false_or, decide_true, decide_false, eq_self_iff_true, call_def, yld_def, opBuildSlice, evalPs, oneWord, runPl, takeG, aTake, isPure, flushL, List.isEmpty_nil, Bool.true_or, Bool.or_true, isAsk, keyG, keyK, nb_new, vc_leaf_eq, k0, k1, k7, hc, hm, d1, hx, hy, hb, hcall, hinc, vc_leaf_eq, hw]
      refine ⟨?_, trivial⟩
      have h1 : zs.any p = true := List.any_eq_true.2 ⟨zs[i], List.getElem_mem hlt, hbb⟩
      have h2 : zs.findIdx p = i := by
        rw [List.findIdx_eq hlt]
        exact ⟨hbb, fun j hj => by simpa using hpre j hj (by omega)⟩
      rw [h1, h2]; rfl
    | false =>
      rw [hbb] at hcall
      simp only [code_seq, seqK_normal, seqK_exit, seqK_ret, regK_leaf, code_region, code_cond, condK_true, condK_false, code_block, blkK_normal, blkK_ret, blkK_exit, code_skip, code_exit, code_ret, code_label, code_scope, bodyK_normal, bodyK_ret, retK_pair, aOpsY, aStepY, yldOf, isDefer, aStep, stepGen, stepCall, stepStore, guardOf, aOpV, opMove, opBin, opUn, opPick, opLoad, opIndexAddr, opExtract, opCall, opConv, atIx, lc, lf, lfb, lo, evalA, evalC, evalO, evalAs, evalCs, ofValue, ofCell, Option.map_some, Option.map_none, putT, aCallee, aUn, bLit, aExtract, Tr.get_set_if, TL.start_get, List.length_cons, List.length_nil, List.getElem?_cons_succ, List.getElem?_cons_zero, List.getElem?_nil, List.map_nil, List.map_cons, List.append_nil, List.nil_append, List.cons_append, bind_leaf, aBin, numOf, isShift, cmp_leq, cmp_lss, cmp_gtr, cmp_geq, cmp_eql, cmp_neq, arith_add, arith_sub, arith_mul, isLit, aArith, aPick, Option.elim_some, Option.elim_none, opsNo, Nat.reduceAdd, Nat.reduceSub, Nat.reduceLeDiff, Nat.reduceLT, Nat.reduceEqDiff, reduceIte, Bool.false_eq_true, Bool.true_eq_false, Bool.not_true, Bool.not_false, List.getElem?_toArray, Option.bind_some, Option.bind_none, endBody, aResults, aResL, aRes1, isV_c, isV_agg, isV_nil, isV_cons, isA_c, isA_agg, isC_il, isC_bl, isC_sl, isC_nsl, isC_sg, isC_sc, isC_pt, isC_npt, isC_fc, List.all_cons, List.all_nil, Bool.false_and, Bool.true_and, Bool.and_true, Bool.and_false, Bool.true_or, Bool.false_or, decide_true, decide_false, eq_self_iff_true, call_def, yld_def, opBuildSlice, evalPs, oneWord, runPl, takeG, aTake, isPure, flushL, List.isEmpty_nil, Bool.true_or, Bool.or_true, isAsk, keyG, keyK, nb_new, vc_leaf_eq, k0, k1, k7, hc, hm, d1, hx, hy, hb, hcall, hinc, vc_leaf_eq, hw]
      refine ⟨hlt, ?_, trivial, trivial, trivial, trivial, ?_⟩
      · repeat (refine Sets.set ?_ _ (by decide) _)
        exact .refl
      · intro j hj h
        by_cases e : j = i
        · subst e; exact hbb
        · exact hpre j (by omega) h
  · have d1 : decide ((i : Int) < (zs.length : Int)) = false := by simpa using hlt
    simp only [code_seq, seqK_normal, seqK_exit, seqK_ret, regK_leaf, code_region, code_cond, condK_true, condK_false, code_block, blkK_normal, blkK_ret, blkK_exit, code_skip, code_exit, code_ret, code_label, code_scope, bodyK_normal, bodyK_ret, retK_pair, aOpsY, aStepY, yldOf, isDefer, aStep, stepGen, stepCall, stepStore, guardOf, aOpV, opMove, opBin, opUn, opPick, opLoad, opIndexAddr, opExtract, opCall, opConv, atIx, lc, lf, lfb, lo, evalA, evalC, evalO, evalAs, evalCs, ofValue, ofCell, Option.map_some, Option.map_none, putT, aCallee, aUn, bLit, aExtract, Tr.get_set_if, TL.start_get, List.length_cons, List.length_nil, List.getElem?_cons_succ, List.getElem?_cons_zero, List.getElem?_nil, List.map_nil, List.map_cons, List.append_nil, List.nil_append, List.cons_append, bind_leaf, aBin, numOf, isShift, cmp_leq, cmp_lss, cmp_gtr, cmp_geq, cmp_eql, cmp_neq, arith_add, arith_sub, arith_mul, isLit, aArith, aPick, Option.elim_some, Option.elim_none, opsNo, Nat.reduceAdd, Nat.reduceSub, Nat.reduceLeDiff, Nat.reduceLT, Nat.reduceEqDiff, reduceIte, Bool.false_eq_true, Bool.true_eq_false, Bool.not_true, Bool.not_false, List.getElem?_toArray, Option.bind_some, Option.bind_none, endBody, aResults, aResL, aRes1, isV_c, isV_agg, isV_nil, isV_cons, isA_c, isA_agg, isC_il, isC_bl, isC_sl, isC_nsl, isC_sg, isC_sc, isC_pt, isC_npt, isC_fc, List.all_cons, List.all_nil, Bool.false_and, Bool.true_and, Bool.and_true, Bool.and_false, Bool.true_or, Bool.false_or, decide_true, decide_false, eq_self_iff_true, call_def, yld_def, opBuildSlice, evalPs, oneWord, runPl, takeG, aTake, isPure, flushL, List.isEmpty_nil, Bool.true_or, Bool.or_true, isAsk, keyG, keyK, nb_new, vc_leaf_eq, k0, k1, k7, hc, hm, d1, vc_leaf_eq, hw]
    refine ⟨?_, trivial⟩
    have h1 : zs.any p = false := by
      rw [List.any_eq_false]
      intro x hx
      obtain ⟨j, hj, rfl⟩ := List.getElem_of_mem hx
      simpa using hpre j (by omega) hj
    rw [h1]; rfl
end
end Go.Proofs.YtlncagdekfjinaaGreatDoor.bud

namespace Go.Proofs.YtlncagdekfjinaaGreatDoor.bud
open Go.RowKit Go.Proofs.VM
noncomputable section
set_option maxRecDepth 100000
set_option linter.unusedSimpArgs false
variable {txt : Rat → List UInt8} {m : M}
theorem b66 : bodied Tryz.prog 66 = true := by kernel_rfl
theorem b133 : bodied Tryz.prog 133 = true := by kernel_rfl
theorem containsFunc_ok (N n : Nat) (v f : CV) (zs : List Int) (p : Int → Bool) (g : FuncId) (caps : List CV) (s : St) (hw : Wf s) (hv : Ints s v .i64 zs) (hN : zs.length < N) (hl : zs.length < 9223372036854775807)
    (hf : f = .fn g ∧ caps = []) (hb : bodied Tryz.prog g = true) (hp : ∀ z ∈ zs, call N (n+1) g [.c (.il .i64 z)] s = .leaf (.v (.c (.bl (p z))), s)) :
    (call N (n+3) 65 [.c v, .c f] s).vc txt m fun r m' => r = (.v (.c (.bl (zs.any p))), s) ∧ m' = m := by
  have hidx := indexFunc_ok (txt := txt) (m := m) N n v f zs p g caps s hw hv hN hl hf hb hp
  have hw := hw.self
  rw [call_body _ _ _ _ _ rfl Tryz.func65 rfl]
  simp only [Tryz.f65]
  simp only [code_seq, seqK_normal, seqK_exit, seqK_ret, regK_leaf, code_region, code_cond, condK_true, condK_false, code_block, blkK_normal, blkK_ret, blkK_exit, code_skip, code_exit, code_ret, code_label, code_scope, bodyK_normal, bodyK_ret, retK_pair, aOpsY, aStepY, yldOf, isDefer, aStep, stepGen, stepCall, stepStore, guardOf, aOpV, opMove, opBin, opUn, opPick, opLoad, opIndexAddr, opExtract, opCall, opConv, atIx, lc, lf, lfb, lo, evalA, evalC, evalO, evalAs, evalCs, ofValue, ofCell, Option.map_some, Option.map_none, putT, aCallee, aUn, bLit, aExtract, Tr.get_set_if, TL.start_get, List.length_cons, List.length_nil, List.getElem?_cons_succ, List.getElem?_cons_zero, List.getElem?_nil, List.map_nil, List.map_cons, List.append_nil, List.nil_append, List.cons_append, bind_leaf, aBin, numOf, isShift, cmp_leq, cmp_lss, cmp_gtr, cmp_geq, cmp_eql, cmp_neq, arith_add, arith_sub, arith_mul, isLit, aArith, aPick, Option.elim_some, Option.elim_none, opsNo, Nat.reduceAdd, Nat.reduceSub, Nat.reduceLeDiff, Nat.reduceLT, Nat.reduceEqDiff, reduceIte, Bool.false_eq_true, Bool.true_eq_false, Bool.not_true, Bool.not_false, List.getElem?_toArray, Option.bind_some, Option.bind_none, endBody, aResults, aResL, aRes1, isV_c, isV_agg, isV_nil, isV_cons, isA_c, isA_agg, isC_il, isC_bl, isC_sl, isC_nsl, isC_sg, isC_sc, isC_pt, isC_npt, isC_fc, List.all_cons, List.all_nil, Bool.false_and, Bool.true_and, Bool.and_true, Bool.and_false, Bool.true_or, Bool.false_or, decide_true, decide_false, eq_self_iff_true, call_def, yld_def, opBuildSlice, evalPs, oneWord, runPl, takeG, aTake, isPure, flushL, List.isEmpty_nil, Bool.true_or, Bool.or_true, isAsk, keyG, keyK, nb_new, vc_leaf_eq, b133]
  simp only [Tree.vc_bind]
  refine Tree.vc_monoS ?_ hidx
  rintro _ m' ⟨rfl, rfl⟩
  cases h : zs.any p
  all_goals
    simp only [code_seq, seqK_normal, seqK_exit, seqK_ret, regK_leaf, code_region, code_cond, condK_true, condK_false, code_block, blkK_normal, blkK_ret, blkK_exit, code_skip, code_exit, code_ret, code_label, code_scope, bodyK_normal, bodyK_ret, retK_pair, aOpsY, aStepY, yldOf, isDefer, aStep, stepGen, stepCall, stepStore, guardOf, aOpV, opMove, opBin, opUn, opPick, opLoad, opIndexAddr, opExtract, opCall, opConv, atIx, lc, lf, lfb, lo, evalA, evalC, evalO, evalAs, evalCs, ofValue, ofCell, Option.map_some, Option.map_none, putT, aCallee, aUn, bLit, aExtract, Tr.get_set_if, TL.start_get, List.length_cons, List.length_nil, List.getElem?_cons_succ, List.getElem?_cons_zero, List.getElem?_nil, List.map_nil, List.map_cons, List.append_nil, List.nil_append, List.cons_append, bind_leaf, aBin, numOf, isShift, cmp_leq, cmp_lss, cmp_gtr, cmp_geq, cmp_eql, cmp_neq, arith_add, arith_sub, arith_mul, isLit, aArith, aPick, Option.elim_some, Option.elim_none, opsNo, Nat.reduceAdd, Nat.reduceSub, Nat.reduceLeDiff, Nat.reduceLT, Nat.reduceEqDiff, reduceIte, Bool.false_eq_true, Bool.true_eq_false, Bool.not_true, Bool.not_false, List.getElem?_toArray, Option.bind_some, Option.bind_none, endBody, aResults, aResL, aRes1, isV_c, isV_agg, isV_nil, isV_cons, isA_c, isA_agg, isC_il, isC_bl, isC_sl, isC_nsl, isC_sg, isC_sc, isC_pt, isC_npt, isC_fc, List.all_cons, List.all_nil, Bool.false_and, Bool.true_and, Bool.and_true, Bool.and_false, Bool.true_or, Bool.false_or, decide_true, decide_false, eq_self_iff_true, call_def, yld_def, opBuildSlice, evalPs, oneWord, runPl, takeG, aTake, isPure, flushL, List.isEmpty_nil, Bool.true_or, Bool.or_true, isAsk, keyG, keyK, nb_new, vc_leaf_eq, vc_leaf_eq, hw, Int.reduceNeg, Int.reduceLE, Int.natCast_nonneg]
    exact ⟨trivial, trivial⟩
theorem grown1_eq (N n : Nat) (z : Int) (s : St) (hw : Wf s) : call N (n+2) 66 [.c (.il .i64 z)] s = .leaf (.v (.c (.bl (!(decide (0 ≤ z) && decide (z ≤ 1073741824))))), s) := by
  have hb := between_eq N n z 0 1073741824 s hw
  have hw := hw.self
  rw [call_body _ _ _ _ _ rfl Tryz.func66 rfl]
  simp only [Tryz.f66]
  simp only [code_seq, seqK_normal, seqK_exit, seqK_ret, regK_leaf, code_region, code_cond, condK_true, condK_false, code_block, blkK_normal, blkK_ret, blkK_exit, code_skip, code_exit, code_ret, code_label, code_scope, bodyK_normal, bodyK_ret, retK_pair, aOpsY, aStepY, yldOf, isDefer, aStep, stepGen, stepCall, stepStore, guardOf, aOpV, opMove, opBin, opUn, opPick, opLoad, opIndexAddr, opExtract, opCall, opConv, atIx, lc, lf, lfb, lo, evalA, evalC, evalO, evalAs, evalCs, ofValue, ofCell, Option.map_some, Option.map_none, putT, aCallee, aUn, bLit, aExtract, Tr.get_set_if, TL.start_get, List.length_cons, List.length_nil, List.getElem?_cons_succ, List.getElem?_cons_zero, List.getElem?_nil, List.map_nil, List.map_cons, List.append_nil, List.nil_append, List.cons_append, bind_leaf, aBin, numOf, isShift, cmp_leq, cmp_lss, cmp_gtr, cmp_geq, cmp_eql, cmp_neq, arith_add, arith_sub, arith_mul, isLit, aArith, aPick, Option.elim_some, Option.elim_none, opsNo, Nat.reduceAdd, Nat.reduceSub, Nat.reduceLeDiff, Nat.reduceLT, Nat.reduceEqDiff, reduceIte, Bool.false_eq_true, Bool.true_eq_false, Bool.not_true, Bool.not_false, List.getElem?_toArray, Option.bind_some, Option.bind_none, endBody, aResults, aResL, aRes1, isV_c, isV_agg, isV_nil, isV_cons, isA_c, isA_agg, isC_il, isC_bl, isC_sl, isC_nsl, isC_sg, isC_sc, isC_pt, isC_npt, isC_fc, List.all_cons, List.all_nil, Bool.false_and, Bool.true_and, Bool.and_true, Bool.and_false, Bool.true_or, Bool.false_or, decide_true, decide_false, eq_self_iff_true, call_def, yld_def, opBuildSlice, evalPs, oneWord, runPl, takeG, aTake, isPure, flushL, List.isEmpty_nil, Bool.true_or, Bool.or_true, isAsk, keyG, keyK, nb_new, vc_leaf_eq, b64, hb, hw]
end
end Go.Proofs.YtlncagdekfjinaaGreatDoor.bud

namespace Go.Proofs.YtlncagdekfjinaaGreatDoor.bud
open Go.RowKit Go.Proofs.VM
noncomputable section
set_option maxRecDepth 100000
set_option linter.unusedSimpArgs false
variable {txt : Rat → List UInt8} {m : M}
theorem b14 : bodied Tryz.prog 14 = true := by kernel_rfl
/-- The growths of the years before year y, and the years among them in which a tree shrank. -/
def grs (zs : List Int) (y : Nat) : List Int := (List.range y).flatMap fun i => if 1 ≤ i then [zs.getD i 0 - zs.getD (i - 1) 0] else []
def shs (zs : List Int) (y : Nat) : List Int := (List.range y).flatMap fun i => if 1 ≤ i ∧ zs.getD i 0 - zs.getD (i - 1) 0 < 0 then [(i : Int)] else []
theorem grs_succ (zs : List Int) (y : Nat) (h1 : 1 ≤ y) : grs zs (y + 1) = grs zs y ++ [zs.getD y 0 - zs.getD (y - 1) 0] := by
  unfold grs; rw [List.range_succ, List.flatMap_append]; simp [h1]
theorem shs_succ (zs : List Int) (y : Nat) (h1 : 1 ≤ y) : shs zs (y + 1) = shs zs y ++ if zs.getD y 0 - zs.getD (y - 1) 0 < 0 then [(y : Int)] else [] := by
  unfold shs; rw [List.range_succ, List.flatMap_append]; simp [h1]
theorem grs_length (zs : List Int) : ∀ y, (grs zs (y + 1)).length = y
  | 0 => rfl
  | y + 1 => by rw [grs_succ _ _ (by omega), List.length_append, grs_length zs y]; rfl
theorem shs_length (zs : List Int) : ∀ y, (shs zs (y + 1)).length ≤ y
  | 0 => Nat.le_refl _
  | y + 1 => by
    have := shs_length zs y
    rw [shs_succ _ _ (by omega), List.length_append]
    split <;> simp <;> omega
theorem grown_ok (N n : Nat) (v : CV) (zs : List Int) (s : St) (hw : Wf s) (hv : Ints s v .i64 zs) (hN : zs.length < N) (h1 : 1 ≤ zs.length) (h64 : zs.length ≤ 64) (hz : ∀ z ∈ zs, 0 ≤ z ∧ z ≤ 1073741824) :
    (call N (n+5) 14 [.c v] s).vc txt m fun r m' => m' = m ∧ ∃ v1 v2, r.1 = .tup [.c v1, .c v2, .c (.il .i64 0)] ∧ VM.Own r.2 v1 3 1 (grs zs zs.length).length (ints .i64 (grs zs zs.length)) ∧ VM.Own r.2 v2 3 1 (shs zs zs.length).length (ints .i64 (shs zs zs.length)) ∧ Keep [] s r.2 := by
  have hlen := Vw.blen hv u24
  have wf := hw
  have hbt := between_eq N (n+3) zs.length 1 64 s hw
  have e1 : decide ((1 : Int) ≤ (zs.length : Int)) = true := by simp; omega
  have e2 : decide ((zs.length : Int) ≤ 64) = true := by simp; omega
  rw [e1, e2] at hbt
  have hany : zs.any (fun z => !(decide (0 ≤ z) && decide (z ≤ 1073741824))) = false := by
    rw [List.any_eq_false]; intro z h; obtain ⟨a, b⟩ := hz z h; simp [a, b]
  have hcf := containsFunc_ok (txt := txt) (m := m) N (n+1) v (.fn 66) zs (fun z => !(decide (0 ≤ z) && decide (z ≤ 1073741824))) 66 [] s hw hv hN (by omega) ⟨rfl, rfl⟩ b66 (fun z _ => grown1_eq N n z s hw)
  rw [hany] at hcf
  have hself := hw.self
  rw [call_body _ _ _ _ _ rfl Tryz.func14 rfl]
  simp only [Tryz.f14]
  simp only [code_seq, seqK_normal, seqK_exit, seqK_ret, regK_leaf, code_region, code_cond, condK_true, condK_false, code_block, blkK_normal, blkK_ret, blkK_exit, code_skip, code_exit, code_ret, code_label, code_scope, bodyK_normal, bodyK_ret, retK_pair, aOpsY, aStepY, yldOf, isDefer, aStep, stepGen, stepCall, stepStore, guardOf, aOpV, opMove, opBin, opUn, opPick, opLoad, opIndexAddr, opExtract, opCall, opConv, atIx, lc, lf, lfb, lo, evalA, evalC, evalO, evalAs, evalCs, ofValue, ofCell, Option.map_some, Option.map_none, putT, aCallee, aUn, bLit, aExtract, Tr.get_set_if, TL.start_get, List.length_cons, List.length_nil, List.getElem?_cons_succ, List.getElem?_cons_zero, List.getElem?_nil, List.map_nil, List.map_cons, List.append_nil, List.nil_append, List.cons_append, bind_leaf, aBin, numOf, isShift, cmp_leq, cmp_lss, cmp_gtr, cmp_geq, cmp_eql, cmp_neq, arith_add, arith_sub, arith_mul, isLit, aArith, aPick, Option.elim_some, Option.elim_none, opsNo, Nat.reduceAdd, Nat.reduceSub, Nat.reduceLeDiff, Nat.reduceLT, Nat.reduceEqDiff, reduceIte, Bool.false_eq_true, Bool.true_eq_false, Bool.not_true, Bool.not_false, List.getElem?_toArray, Option.bind_some, Option.bind_none, endBody, aResults, aResL, aRes1, isV_c, isV_agg, isV_nil, isV_cons, isA_c, isA_agg, isC_il, isC_bl, isC_sl, isC_nsl, isC_sg, isC_sc, isC_pt, isC_npt, isC_fc, List.all_cons, List.all_nil, Bool.false_and, Bool.true_and, Bool.and_true, Bool.and_false, Bool.true_or, Bool.false_or, decide_true, decide_false, eq_self_iff_true, call_def, yld_def, opBuildSlice, evalPs, oneWord, runPl, takeG, aTake, isPure, flushL, List.isEmpty_nil, Bool.true_or, Bool.or_true, isAsk, keyG, keyK, nb_new, vc_leaf_eq, hlen, b64, b65, hbt]
  simp only [Tree.vc_bind]
  refine Tree.vc_monoS ?_ hcf
  rintro _ m' ⟨rfl, rfl⟩
  simp only [code_seq, seqK_normal, seqK_exit, seqK_ret, regK_leaf, code_region, code_cond, condK_true, condK_false, code_block, blkK_normal, blkK_ret, blkK_exit, code_skip, code_exit, code_ret, code_label, code_scope, bodyK_normal, bodyK_ret, retK_pair, aOpsY, aStepY, yldOf, isDefer, aStep, stepGen, stepCall, stepStore, guardOf, aOpV, opMove, opBin, opUn, opPick, opLoad, opIndexAddr, opExtract, opCall, opConv, atIx, lc, lf, lfb, lo, evalA, evalC, evalO, evalAs, evalCs, ofValue, ofCell, Option.map_some, Option.map_none, putT, aCallee, aUn, bLit, aExtract, Tr.get_set_if, TL.start_get, List.length_cons, List.length_nil, List.getElem?_cons_succ, List.getElem?_cons_zero, List.getElem?_nil, List.map_nil, List.map_cons, List.append_nil, List.nil_append, List.cons_append, bind_leaf, aBin, numOf, isShift, cmp_leq, cmp_lss, cmp_gtr, cmp_geq, cmp_eql, cmp_neq, arith_add, arith_sub, arith_mul, isLit, aArith, aPick, Option.elim_some, Option.elim_none, opsNo, Nat.reduceAdd, Nat.reduceSub, Nat.reduceLeDiff, Nat.reduceLT, Nat.reduceEqDiff, reduceIte, Bool.false_eq_true, Bool.true_eq_false, Bool.not_true, Bool.not_false, List.getElem?_toArray, Option.bind_some, Option.bind_none, endBody, aResults, aResL, aRes1, isV_c, isV_agg, isV_nil, isV_cons, isA_c, isA_agg, isC_il, isC_bl, isC_sl, isC_nsl, isC_sg, isC_sc, isC_pt, isC_npt, isC_fc, List.all_cons, List.all_nil, Bool.false_and, Bool.true_and, Bool.and_true, Bool.and_false, Bool.true_or, Bool.false_or, decide_true, decide_false, eq_self_iff_true, call_def, yld_def, opBuildSlice, evalPs, oneWord, runPl, takeG, aTake, isPure, flushL, List.isEmpty_nil, Bool.true_or, Bool.or_true, isAsk, keyG, keyK, nb_new, vc_leaf_eq, hlen, Tree.vc_bind]
  rw [code_loop]
  refine vc_for [2, 3, 5, 6, 13, 14, 15, 16, 17, 18, 19, 20, 21, 22, 23, 24, 25, 26, 27, 28, 29, 30, 31, 32, 33, 34, 35, 36, 37, 38, 39, 40] [(0, .v (.c v))] 41
    (fun k t st m1 => m1 = m' ∧ ∃ y v1 v2, k = zs.length - y ∧ 1 ≤ y ∧ y ≤ zs.length ∧ t.get 5 = some (.v (.c (.il .i64 (y : Nat)))) ∧ t.get 2 = some (.v (.c v1)) ∧ t.get 3 = some (.v (.c v2)) ∧ VM.Own st v1 3 1 (grs zs y).length (ints .i64 (grs zs y)) ∧ VM.Own st v2 3 1 (shs zs y).length (ints .i64 (shs zs y)) ∧ Apart v2 v1 ∧ New s v1 ∧ New s v2 ∧ Keep [] s st)
    (zs.length - 1) (by simp) (by simp only [List.forall_mem_cons]; exact ⟨rfl, fun _ h => by cases h⟩) (by simp only [Tr.all_set_iff]; exact TL.start_all _ _ (by simp)) (by omega) ⟨rfl, 1, .nsl, .nsl, rfl, by omega, h1, rfl, rfl, rfl, VM.Own.nil _ _ _, VM.Own.nil _ _ _, (fun b h => nomatch h), (fun b h => nomatch h), (fun b h => nomatch h), Keep.refl wf⟩ ?_
  rintro k t st m1 hfac hm hta ⟨rfl, y, v1, v2, rfl, hy1, hyn, h5, h2, h3, o1, o2, hap, hn1, hn2, hk⟩
  simp only [List.forall_mem_cons] at hfac
  obtain ⟨k0, -⟩ := hfac
  by_cases hlt : y < zs.length
  · have d1 : decide ((y : Int) < (zs.length : Int)) = true := by simpa using hlt
    simp only [code_seq, seqK_normal, seqK_exit, seqK_ret, regK_leaf, code_region, code_cond, condK_true, condK_false, code_block, blkK_normal, blkK_ret, blkK_exit, code_skip, code_exit, code_ret, code_label, code_scope, bodyK_normal, bodyK_ret, retK_pair, aOpsY, aStepY, yldOf, isDefer, aStep, stepGen, stepCall, stepStore, guardOf, aOpV, opMove, opBin, opUn, opPick, opLoad, opIndexAddr, opExtract, opCall, opConv, atIx, lc, lf, lfb, lo, evalA, evalC, evalO, evalAs, evalCs, ofValue, ofCell, Option.map_some, Option.map_none, putT, aCallee, aUn, bLit, aExtract, Tr.get_set_if, TL.start_get, List.length_cons, List.length_nil, List.getElem?_cons_succ, List.getElem?_cons_zero, List.getElem?_nil, List.map_nil, List.map_cons, List.append_nil, List.nil_append, List.cons_append, bind_leaf, aBin, numOf, isShift, cmp_leq, cmp_lss, cmp_gtr, cmp_geq, cmp_eql, cmp_neq, arith_add, arith_sub, arith_mul, isLit, aArith, aPick, Option.elim_some, Option.elim_none, opsNo, Nat.reduceAdd, Nat.reduceSub, Nat.reduceLeDiff, Nat.reduceLT, Nat.reduceEqDiff, reduceIte, Bool.false_eq_true, Bool.true_eq_false, Bool.not_true, Bool.not_false, List.getElem?_toArray, Option.bind_some, Option.bind_none, endBody, aResults, aResL, aRes1, isV_c, isV_agg, isV_nil, isV_cons, isA_c, isA_agg, isC_il, isC_bl, isC_sl, isC_nsl, isC_sg, isC_sc, isC_pt, isC_npt, isC_fc, List.all_cons, List.all_nil, Bool.false_and, Bool.true_and, Bool.and_true, Bool.and_false, Bool.true_or, Bool.false_or, decide_true, decide_false, eq_self_iff_true, call_def, yld_def, opBuildSlice, evalPs, oneWord, runPl, takeG, aTake, isPure, flushL, List.isEmpty_nil, Bool.true_or, Bool.or_true, isAsk, keyG, keyK, nb_new, vc_leaf_eq, hlen, k0, h5, hm, d1]
    simp only [Tree.vc_bind]
    refine code_draw_vc (.take 0 (.take 1 (.take 2 (.take 3 (.take 4 (.take 5 (.take 6 (.take 7 (.take 8 (.take 9 (.take 10 (.fin [])))))))))))) (by kernel_rfl) (by kernel_rfl) ?_
    generalize hH0 : heap0 _ _ = H
    obtain ⟨b, off, hbid, hidx, hload⟩ := Ints.at2 (hv.keep hk (fun _ _ h => nomatch h)) u24 z3 r3 (by omega)
    have hH : VM.look H b = VM.look st.heap b := by rw [← hH0]; exact heap0_look (v := v) 3 0 (by kernel_rfl) (by simp [Tr.get_set_if, k0]) (by rw [hbid]; simp)
    clear hH0
    have hx1 := hidx .i64 y hlt
    have hx2 := hidx .i64 (y - 1) (by omega)
    have hl1 := (aLoad_at_heap (P := Tryz.prog) hH 3 (off + y)).trans (hload y hlt)
    have hl2 := (aLoad_at_heap (P := Tryz.prog) hH 3 (off + (y - 1))).trans (hload (y - 1) (by omega))
    have hdec : IntKind.i64.wrap ((y : Int) - 1) = ((y - 1 : Nat) : Int) := by rw [wrap64 (by omega) (by omega)]; omega
    obtain ⟨q1, q2⟩ := hz zs[y] (List.getElem_mem hlt)
    obtain ⟨q3, q4⟩ := hz zs[y - 1] (List.getElem_mem (by omega))
    have hsub : IntKind.i64.wrap (zs[y] - zs[y - 1]) = zs[y] - zs[y - 1] := wrap64 (by omega) (by omega)
    have hg1 := grs_length zs (y - 1)
    have hs1 := shs_length zs (y - 1)
    rw [show y - 1 + 1 = y by omega] at hg1 hs1
    have hgs := grs_succ zs y hy1
    have hss := shs_succ zs y hy1
    rw [show zs.getD y 0 = zs[y] by simp [hlt], show zs.getD (y - 1) 0 = zs[y - 1] by rw [List.getD_eq_getElem?_getD, List.getElem?_eq_getElem (by omega)]; rfl] at hgs hss
    have hinc : IntKind.i64.wrap ((y : Int) + 1) = ((y + 1 : Nat) : Int) := by rw [wrap64 (by omega) (by omega)]; rfl
    obtain ⟨s2, a1, a2, a3, a4⟩ := o1.push (news := [.il .i64 (zs[y] - zs[y - 1])]) hk.wf ty24 (by omega) rfl rfl
    have o2' := o2.keep a3 (fun b hb => hap b hb)
    have ap2 : Apart v2 (.sg (st.nb + 1) 0 ((grs zs y).length + 1) 0) := fun b hb => by
      have := o2.lt hk.wf b hb
      simp [bid]; omega
    have hk2 : Keep [] s s2 := (hk.trans a3).less hw (fun x hx => .inr (hn1 x (by simpa using hx)))
    have hn1' : New s (.sg (st.nb + 1) 0 ((grs zs y).length + 1) 0) := fun b hb => by
      have := hk.nb
      simp [bid] at hb; omega
    have a2' : VM.Own s2 (.sg (st.nb + 1) 0 ((grs zs y).length + 1) 0) 3 1 (grs zs (y + 1)).length (ints .i64 (grs zs (y + 1))) := by
      rw [hgs]; simpa [ints] using a2
    cases hneg : decide (zs[y] - zs[y - 1] < 0) with
    | true =>
      obtain ⟨s3, c1, c2, c3, c4⟩ := o2'.push (news := [.il .i64 (y : Int)]) hk2.wf ty24 (by omega) rfl rfl
      have a2'' := a2'.keep c3 (fun b hb h2 => by
        have e1 : b = st.nb + 1 := by simpa [bid] using hb
        have := o2.lt hk.wf b h2
        omega)
      have c2' : VM.Own s3 (.sg (s2.nb + 1) 0 ((shs zs y).length + 1) 0) 3 1 (shs zs (y + 1)).length (ints .i64 (shs zs (y + 1))) := by
        rw [hss, if_pos (by simpa using hneg)]; simpa [ints] using c2
      simp only [code_seq, seqK_normal, seqK_exit, seqK_ret, regK_leaf, code_region, code_cond, condK_true, condK_false, code_block, blkK_normal, blkK_ret, blkK_exit, code_skip, code_exit, code_ret, code_label, code_scope, bodyK_normal, bodyK_ret, retK_pair, aOpsY, aStepY, yldOf, isDefer, aStep, stepGen, stepCall, stepStore, guardOf, aOpV, opMove, opBin, opUn, opPick, opLoad, opIndexAddr, opExtract, opCall, opConv, atIx, lc, lf, lfb, lo, evalA, evalC, evalO, evalAs, evalCs, ofValue, ofCell, Option.map_some, Option.map_none, putT, aCallee, aUn, bLit, aExtract, Tr.get_set_if, TL.start_get, List.length_cons, List.length_nil, List.getElem?_cons_succ, List.getElem?_cons_zero, List.getElem?_nil, List.map_nil, List.map_cons, List.append_nil, List.nil_append, List.cons_append, bind_leaf, aBin, numOf, isShift, cmp_leq, cmp_lss, cmp_gtr, cmp_geq, cmp_eql, cmp_neq, arith_add, arith_sub, arith_mul, isLit, aArith, aPick, Option.elim_some, Option.elim_none, opsNo, Nat.reduceAdd, Nat.reduceSub, Nat.reduceLeDiff, Nat.reduceLT, Nat.reduceEqDiff, reduceIte, Bool.false_eq_true, Bool.true_eq_false, Bool.not_true, Bool.not_false, List.getElem?_toArray, Option.bind_some, Option.bind_none, endBody, aResults, aResL, aRes1, isV_c, isV_agg, isV_nil, isV_cons, isA_c, isA_agg, isC_il, isC_bl, isC_sl, isC_nsl, isC_sg, isC_sc, isC_pt, isC_npt, isC_fc, List.all_cons, List.all_nil, Bool.false_and, Bool.true_and, Bool.and_true, Bool.and_false, Bool.true_or, Bool.false_or, decide_true, decide_false, eq_self_iff_true, call_def, yld_def, opBuildSlice, evalPs, oneWord, runPl, takeG, aTake, isPure, flushL, List.isEmpty_nil, Bool.true_or, Bool.or_true, isAsk, keyG, keyK, nb_new, vc_leaf_eq, hlen, k0, h5, h2, h3, hm, d1, hx1, hx2, hl1, hl2, hdec, hsub, hinc, a1, c1, bs24, hneg]
      refine ⟨?_, trivial, zs.length - (y + 1), by omega, trivial, y + 1, _, _, rfl, by omega, hlt, rfl, rfl, rfl, a2'', c2', fun b hb => ?_, hn1', fun b hb => ?_, (hk2.trans c3).less hw (fun x hx => .inr (hn2 x (by simpa using hx)))⟩
      · repeat (refine Sets.set ?_ _ (by decide) _)
        exact .refl
      · simp [bid] at hb ⊢; omega
      · have := hk2.nb; simp [bid] at hb; omega
    | false =>
      have c2' : VM.Own s2 v2 3 1 (shs zs (y + 1)).length (ints .i64 (shs zs (y + 1))) := by
        rw [hss, if_neg (by simpa using hneg), List.append_nil]; exact o2'
      simp only [code_seq, seqK_normal, seqK_exit, seqK_ret, regK_leaf, code_region, code_cond, condK_true, condK_false, code_block, blkK_normal, blkK_ret, blkK_exit, code_skip, code_exit, code_ret, code_label, code_scope, bodyK_normal, bodyK_ret, retK_pair, aOpsY, aStepY, yldOf, isDefer, aStep, stepGen, stepCall, stepStore, guardOf, aOpV, opMove, opBin, opUn, opPick, opLoad, opIndexAddr, opExtract, opCall, opConv, atIx, lc, lf, lfb, lo, evalA, evalC, evalO, evalAs, evalCs, ofValue, ofCell, Option.map_some, Option.map_none, putT, aCallee, aUn, bLit, aExtract, Tr.get_set_if, TL.start_get, List.length_cons, List.length_nil, List.getElem?_cons_succ, List.getElem?_cons_zero, List.getElem?_nil, List.map_nil, List.map_cons, List.append_nil, List.nil_append, List.cons_append, bind_leaf, aBin, numOf, isShift, cmp_leq, cmp_lss, cmp_gtr, cmp_geq, cmp_eql, cmp_neq, arith_add, arith_sub, arith_mul, isLit, aArith, aPick, Option.elim_some, Option.elim_none, opsNo, Nat.reduceAdd, Nat.reduceSub, Nat.reduceLeDiff, Nat.reduceLT, Nat.reduceEqDiff, reduceIte, Bool.false_eq_true, Bool.true_eq_false, Bool.not_true, Bool.not_false, List.getElem?_toArray, Option.bind_some, Option.bind_none, endBody, aResults, aResL, aRes1, isV_c, isV_agg, isV_nil, isV_cons, isA_c, isA_agg, isC_il, isC_bl, isC_sl, isC_nsl, isC_sg, isC_sc, isC_pt, isC_npt, isC_fc, List.all_cons, List.all_nil, Bool.false_and, Bool.true_and, Bool.and_true, Bool.and_false, Bool.true_or, Bool.false_or, decide_true, decide_false, eq_self_iff_true, call_def, yld_def, opBuildSlice, evalPs, oneWord, runPl, takeG, aTake, isPure, flushL, List.isEmpty_nil, Bool.true_or, Bool.or_true, isAsk, keyG, keyK, nb_new, vc_leaf_eq, hlen, k0, h5, h2, h3, hm, d1, hx1, hx2, hl1, hl2, hdec, hsub, hinc, a1, bs24, hneg]
      refine ⟨?_, trivial, zs.length - (y + 1), by omega, trivial, y + 1, _, _, rfl, by omega, hlt, rfl, rfl, rfl, a2', c2', ap2, hn1', hn2, hk2⟩
      repeat (refine Sets.set ?_ _ (by decide) _)
      exact .refl
  · have d1 : decide ((y : Int) < (zs.length : Int)) = false := by simpa using hlt
    have hyz : y = zs.length := by omega
    simp only [code_seq, seqK_normal, seqK_exit, seqK_ret, regK_leaf, code_region, code_cond, condK_true, condK_false, code_block, blkK_normal, blkK_ret, blkK_exit, code_skip, code_exit, code_ret, code_label, code_scope, bodyK_normal, bodyK_ret, retK_pair, aOpsY, aStepY, yldOf, isDefer, aStep, stepGen, stepCall, stepStore, guardOf, aOpV, opMove, opBin, opUn, opPick, opLoad, opIndexAddr, opExtract, opCall, opConv, atIx, lc, lf, lfb, lo, evalA, evalC, evalO, evalAs, evalCs, ofValue, ofCell, Option.map_some, Option.map_none, putT, aCallee, aUn, bLit, aExtract, Tr.get_set_if, TL.start_get, List.length_cons, List.length_nil, List.getElem?_cons_succ, List.getElem?_cons_zero, List.getElem?_nil, List.map_nil, List.map_cons, List.append_nil, List.nil_append, List.cons_append, bind_leaf, aBin, numOf, isShift, cmp_leq, cmp_lss, cmp_gtr, cmp_geq, cmp_eql, cmp_neq, arith_add, arith_sub, arith_mul, isLit, aArith, aPick, Option.elim_some, Option.elim_none, opsNo, Nat.reduceAdd, Nat.reduceSub, Nat.reduceLeDiff, Nat.reduceLT, Nat.reduceEqDiff, reduceIte, Bool.false_eq_true, Bool.true_eq_false, Bool.not_true, Bool.not_false, List.getElem?_toArray, Option.bind_some, Option.bind_none, endBody, aResults, aResL, aRes1, isV_c, isV_agg, isV_nil, isV_cons, isA_c, isA_agg, isC_il, isC_bl, isC_sl, isC_nsl, isC_sg, isC_sc, isC_pt, isC_npt, isC_fc, List.all_cons, List.all_nil, Bool.false_and, Bool.true_and, Bool.and_true, Bool.and_false, Bool.true_or, Bool.false_or, decide_true, decide_false, eq_self_iff_true, call_def, yld_def, opBuildSlice, evalPs, oneWord, runPl, takeG, aTake, isPure, flushL, List.isEmpty_nil, Bool.true_or, Bool.or_true, isAsk, keyG, keyK, nb_new, vc_leaf_eq, hlen, k0, h5, h2, h3, hm, d1]
    rw [hyz] at o1 o2
    refine ite_vc (fun hV => ?_) (fun _ => ⟨rfl, v1, v2, rfl, o1, o2, hk⟩)
    simp only [Bool.and_eq_true] at hV
    exact ⟨rfl, v1, v2, rfl, o1.drop hV.1 _, o2.drop hV.2 _, hk.drop hw⟩
end
end Go.Proofs.YtlncagdekfjinaaGreatDoor.bud

namespace Go.Proofs.YtlncagdekfjinaaGreatDoor.bud
open Go.RowKit Go.Proofs.VM
noncomputable section
set_option maxRecDepth 100000
set_option linter.unusedSimpArgs false
variable {txt : Rat → List UInt8} {m : M}
theorem u22 : Tryz.prog.underlying 22 = some (.slice 25) := by kernel_rfl
theorem z25 : sizeT Tryz.prog 25 = some 1 := by kernel_rfl
theorem r25 : rowT Tryz.prog 25 = some false := by kernel_rfl
theorem conv25 (s : St) (z : Int) : aConv Tryz.prog s 25 3 (.il .u16 z) = .leaf (.v (.c (.il .i64 (IntKind.i64.wrap z))), s) := by
  have h1 : Tryz.prog.underlying 25 = some (.int .u16) := by kernel_rfl
  have h2 : Tryz.prog.underlying 3 = some (.int .i64) := by kernel_rfl
  simp [aConv, h1, h2]
theorem shs_mem (zs : List Int) : ∀ (n : Nat) (x : Int), x ∈ shs zs n → ∃ y : Nat, x = (y : Int) ∧ 1 ≤ y ∧ y < n ∧ zs.getD y 0 - zs.getD (y - 1) 0 < 0 := by
  intro n x hx
  unfold shs at hx
  obtain ⟨i, hi, h⟩ := List.mem_flatMap.1 hx
  split at h
  · rename_i hc
    exact ⟨i, by simpa using h, hc.1, by simpa using hi, hc.2⟩
  · cases h
theorem shs_count (zs : List Int) (n : Nat) : (grs zs n).countP (fun g => decide (g < 0)) = (shs zs n).length := by
  unfold grs shs
  rw [List.countP_flatMap, List.length_flatMap]
  congr 1
  apply List.map_congr_left
  intro i _
  simp only [Function.comp]
  by_cases h : 1 ≤ i
  · generalize zs.getD i 0 - zs.getD (i - 1) 0 = d
    by_cases h2 : d < 0 <;> simp [h, h2]
  · simp [h]
theorem grs_sum (zs : List Int) : ∀ y, (grs zs (y + 1)).sum = zs.getD y 0 - zs.getD 0 0
  | 0 => by simp [grs]
  | y + 1 => by
    rw [grs_succ _ _ (by omega), List.sum_append, grs_sum zs y]
    simp only [List.sum_cons, List.sum_nil, Nat.add_sub_cancel]; omega
theorem grs_mem (zs : List Int) (hz : ∀ z ∈ zs, 0 ≤ z ∧ z ≤ 65535) (n : Nat) : ∀ z ∈ grs zs n, -65535 ≤ z ∧ z ≤ 65535 := by
  have hd : ∀ i, 0 ≤ zs.getD i 0 ∧ zs.getD i 0 ≤ 65535 := fun i => by
    by_cases h : i < zs.length
    · rw [List.getD_eq_getElem?_getD, List.getElem?_eq_getElem h]; exact hz _ (List.getElem_mem h)
    · rw [List.getD_eq_getElem?_getD, List.getElem?_eq_none (by omega)]; simp
  intro z hz'
  unfold grs at hz'
  obtain ⟨i, hi, h⟩ := List.mem_flatMap.1 hz'
  split at h
  · have := hd i; have := hd (i - 1)
    have : z = zs.getD i 0 - zs.getD (i - 1) 0 := by simpa using h
    omega
  · cases h
set_option maxHeartbeats 4000000 in
theorem rings_ok (N n : Nat) (v : CV) (zs : List Int) (s : St) (hw : Wf s) (hv : Ints s v .u16 zs) (hN : 40 < N) (hz : ∀ z ∈ zs, 0 ≤ z ∧ z ≤ 65535) :
    (call N (n+6) 3 [.c v] s).vc txt m fun r _ => r.1 = .v (.c (.bl true)) := by
  have hlen := Vw.blen hv u22
  have wf := hw
  have hself := hw.self
  rw [call_body _ _ _ _ _ rfl Tryz.func3 rfl]
  simp only [Tryz.f3]
  have haw := fun s => awake_eq N (n+4) s
  by_cases hb : zs.length < 1 ∨ 30 < zs.length
  · by_cases h1 : zs.length < 1
    · have d1 : decide ((zs.length : Int) < 1) = true := by simp; omega
      simp only [code_seq, seqK_normal, seqK_exit, seqK_ret, regK_leaf, code_region, code_cond, condK_true, condK_false, code_block, blkK_normal, blkK_ret, blkK_exit, code_skip, code_exit, code_ret, code_label, code_scope, bodyK_normal, bodyK_ret, retK_pair, aOpsY, aStepY, yldOf, isDefer, aStep, stepGen, stepCall, stepStore, guardOf, aOpV, opMove, opBin, opUn, opPick, opLoad, opIndexAddr, opExtract, opCall, opConv, atIx, lc, lf, lfb, lo, evalA, evalC, evalO, evalAs, evalCs, ofValue, ofCell, Option.map_some, Option.map_none, putT, aCallee, aUn, bLit, aExtract, Tr.get_set_if, TL.start_get, List.length_cons, List.length_nil, List.getElem?_cons_succ, List.getElem?_cons_zero, List.getElem?_nil, List.map_nil, List.map_cons, List.append_nil, List.nil_append, List.cons_append, bind_leaf, aBin, numOf, isShift, cmp_leq, cmp_lss, cmp_gtr, cmp_geq, cmp_eql, cmp_neq, arith_add, arith_sub, arith_mul, isLit, aArith, aPick, Option.elim_some, Option.elim_none, opsNo, Nat.reduceAdd, Nat.reduceSub, Nat.reduceLeDiff, Nat.reduceLT, Nat.reduceEqDiff, reduceIte, Bool.false_eq_true, Bool.true_eq_false, Bool.not_true, Bool.not_false, List.getElem?_toArray, Option.bind_some, Option.bind_none, endBody, aResults, aResL, aRes1, isV_c, isV_agg, isV_nil, isV_cons, isA_c, isA_agg, isC_il, isC_bl, isC_sl, isC_nsl, isC_sg, isC_sc, isC_pt, isC_npt, isC_fc, List.all_cons, List.all_nil, Bool.false_and, Bool.true_and, Bool.and_true, Bool.and_false, Bool.true_or, Bool.false_or, decide_true, decide_false, eq_self_iff_true, call_def, yld_def, opBuildSlice, evalPs, oneWord, runPl, takeG, aTake, isPure, flushL, List.isEmpty_nil, Bool.true_or, Bool.or_true, isAsk, keyG, keyK, nb_new, vc_leaf_eq, hlen, d1, b13, haw]
    · have d1 : decide ((zs.length : Int) < 1) = false := by simp; omega
      have d2 : decide ((30 : Int) < (zs.length : Int)) = true := by simp; omega
      simp only [code_seq, seqK_normal, seqK_exit, seqK_ret, regK_leaf, code_region, code_cond, condK_true, condK_false, code_block, blkK_normal, blkK_ret, blkK_exit, code_skip, code_exit, code_ret, code_label, code_scope, bodyK_normal, bodyK_ret, retK_pair, aOpsY, aStepY, yldOf, isDefer, aStep, stepGen, stepCall, stepStore, guardOf, aOpV, opMove, opBin, opUn, opPick, opLoad, opIndexAddr, opExtract, opCall, opConv, atIx, lc, lf, lfb, lo, evalA, evalC, evalO, evalAs, evalCs, ofValue, ofCell, Option.map_some, Option.map_none, putT, aCallee, aUn, bLit, aExtract, Tr.get_set_if, TL.start_get, List.length_cons, List.length_nil, List.getElem?_cons_succ, List.getElem?_cons_zero, List.getElem?_nil, List.map_nil, List.map_cons, List.append_nil, List.nil_append, List.cons_append, bind_leaf, aBin, numOf, isShift, cmp_leq, cmp_lss, cmp_gtr, cmp_geq, cmp_eql, cmp_neq, arith_add, arith_sub, arith_mul, isLit, aArith, aPick, Option.elim_some, Option.elim_none, opsNo, Nat.reduceAdd, Nat.reduceSub, Nat.reduceLeDiff, Nat.reduceLT, Nat.reduceEqDiff, reduceIte, Bool.false_eq_true, Bool.true_eq_false, Bool.not_true, Bool.not_false, List.getElem?_toArray, Option.bind_some, Option.bind_none, endBody, aResults, aResL, aRes1, isV_c, isV_agg, isV_nil, isV_cons, isA_c, isA_agg, isC_il, isC_bl, isC_sl, isC_nsl, isC_sg, isC_sc, isC_pt, isC_npt, isC_fc, List.all_cons, List.all_nil, Bool.false_and, Bool.true_and, Bool.and_true, Bool.and_false, Bool.true_or, Bool.false_or, decide_true, decide_false, eq_self_iff_true, call_def, yld_def, opBuildSlice, evalPs, oneWord, runPl, takeG, aTake, isPure, flushL, List.isEmpty_nil, Bool.true_or, Bool.or_true, isAsk, keyG, keyK, nb_new, vc_leaf_eq, hlen, d1, d2, b13, haw]
  have d1 : decide ((zs.length : Int) < 1) = false := by simp; omega
  have d2 : decide ((30 : Int) < (zs.length : Int)) = false := by simp; omega
  simp only [code_seq, seqK_normal, seqK_exit, seqK_ret, regK_leaf, code_region, code_cond, condK_true, condK_false, code_block, blkK_normal, blkK_ret, blkK_exit, code_skip, code_exit, code_ret, code_label, code_scope, bodyK_normal, bodyK_ret, retK_pair, aOpsY, aStepY, yldOf, isDefer, aStep, stepGen, stepCall, stepStore, guardOf, aOpV, opMove, opBin, opUn, opPick, opLoad, opIndexAddr, opExtract, opCall, opConv, atIx, lc, lf, lfb, lo, evalA, evalC, evalO, evalAs, evalCs, ofValue, ofCell, Option.map_some, Option.map_none, putT, aCallee, aUn, bLit, aExtract, Tr.get_set_if, TL.start_get, List.length_cons, List.length_nil, List.getElem?_cons_succ, List.getElem?_cons_zero, List.getElem?_nil, List.map_nil, List.map_cons, List.append_nil, List.nil_append, List.cons_append, bind_leaf, aBin, numOf, isShift, cmp_leq, cmp_lss, cmp_gtr, cmp_geq, cmp_eql, cmp_neq, arith_add, arith_sub, arith_mul, isLit, aArith, aPick, Option.elim_some, Option.elim_none, opsNo, Nat.reduceAdd, Nat.reduceSub, Nat.reduceLeDiff, Nat.reduceLT, Nat.reduceEqDiff, reduceIte, Bool.false_eq_true, Bool.true_eq_false, Bool.not_true, Bool.not_false, List.getElem?_toArray, Option.bind_some, Option.bind_none, endBody, aResults, aResL, aRes1, isV_c, isV_agg, isV_nil, isV_cons, isA_c, isA_agg, isC_il, isC_bl, isC_sl, isC_nsl, isC_sg, isC_sc, isC_pt, isC_npt, isC_fc, List.all_cons, List.all_nil, Bool.false_and, Bool.true_and, Bool.and_true, Bool.and_false, Bool.true_or, Bool.false_or, decide_true, decide_false, eq_self_iff_true, call_def, yld_def, opBuildSlice, evalPs, oneWord, runPl, takeG, aTake, isPure, flushL, List.isEmpty_nil, Bool.true_or, Bool.or_true, isAsk, keyG, keyK, nb_new, vc_leaf_eq, hlen, d1, d2, b13, haw, Tree.vc_bind]
  rw [code_loop]
  refine vc_range [2, 3, 5, 25, 26, 27, 28, 29, 30, 31, 32, 33, 34] [(0, .v (.c v)), (23, .v (.c v)), (24, .v (.c (.il .i64 zs.length)))] 111 25 zs.length
    (fun i t st m1 => m1 = m ∧ ∃ v1, t.get 3 = some (.v (.c v1)) ∧ VM.Own st v1 3 1 i (ints .i64 (zs.take i)) ∧ New s v1 ∧ Keep [] s st)
    (by simp) (by simp only [List.forall_mem_cons]; exact ⟨rfl, rfl, rfl, fun _ h => by cases h⟩) (by simp only [Tr.all_set_iff]; exact TL.start_all _ _ (by simp)) rfl (by omega) ⟨rfl, .nsl, rfl, VM.Own.nil _ _ _, (fun b h => nomatch h), Keep.refl wf⟩ ?_
  rintro i t st m1 hi hfac hm hta hc ⟨rfl, v1, h3, o1, hn1, hk⟩
  simp only [List.forall_mem_cons] at hfac
  obtain ⟨k0, k23, k24, -⟩ := hfac
  by_cases hlt : i < zs.length
  · obtain ⟨b, off, -, hidx, hload⟩ := Ints.at2 (hv.keep hk (fun _ _ h => nomatch h)) u22 z25 r25 (by omega)
    have d1 : decide ((i : Int) < (zs.length : Int)) = true := by simpa using hlt
    have hx := hidx .i64 i hlt
    have hy := hload i hlt
    obtain ⟨q1, q2⟩ := hz zs[i] (List.getElem_mem hlt)
    have hcv := conv25 st zs[i]
    rw [wrap64 (by omega) (by omega)] at hcv
    have hinc : IntKind.i64.wrap ((i : Int) + 1) = ((i + 1 : Nat) : Int) := by rw [wrap64 (by omega) (by omega)]; rfl
    obtain ⟨s2, a1, a2, a3, a4⟩ := o1.push (news := [.il .i64 zs[i]]) hk.wf ty24 (by omega) rfl rfl
    simp only [code_seq, seqK_normal, seqK_exit, seqK_ret, regK_leaf, code_region, code_cond, condK_true, condK_false, code_block, blkK_normal, blkK_ret, blkK_exit, code_skip, code_exit, code_ret, code_label, code_scope, bodyK_normal, bodyK_ret, retK_pair, aOpsY, aStepY, yldOf, isDefer, aStep, stepGen, stepCall, stepStore, guardOf, aOpV, opMove, opBin, opUn, opPick, opLoad, opIndexAddr, opExtract, opCall, opConv, atIx, lc, lf, lfb, lo, evalA, evalC, evalO, evalAs, evalCs, ofValue, ofCell, Option.map_some, Option.map_none, putT, aCallee, aUn, bLit, aExtract, Tr.get_set_if, TL.start_get, List.length_cons, List.length_nil, List.getElem?_cons_succ, List.getElem?_cons_zero, List.getElem?_nil, List.map_nil, List.map_cons, List.append_nil, List.nil_append, List.cons_append, bind_leaf, aBin, numOf, isShift, cmp_leq, cmp_lss, cmp_gtr, cmp_geq, cmp_eql, cmp_neq, arith_add, arith_sub, arith_mul, isLit, aArith, aPick, Option.elim_some, Option.elim_none, opsNo, Nat.reduceAdd, Nat.reduceSub, Nat.reduceLeDiff, Nat.reduceLT, Nat.reduceEqDiff, reduceIte, Bool.false_eq_true, Bool.true_eq_false, Bool.not_true, Bool.not_false, List.getElem?_toArray, Option.bind_some, Option.bind_none, endBody, aResults, aResL, aRes1, isV_c, isV_agg, isV_nil, isV_cons, isA_c, isA_agg, isC_il, isC_bl, isC_sl, isC_nsl, isC_sg, isC_sc, isC_pt, isC_npt, isC_fc, List.all_cons, List.all_nil, Bool.false_and, Bool.true_and, Bool.and_true, Bool.and_false, Bool.true_or, Bool.false_or, decide_true, decide_false, eq_self_iff_true, call_def, yld_def, opBuildSlice, evalPs, oneWord, runPl, takeG, aTake, isPure, flushL, List.isEmpty_nil, Bool.true_or, Bool.or_true, isAsk, keyG, keyK, nb_new, vc_leaf_eq, hlen, k0, k23, k24, h3, hc, hm, d1, hx, hy, hcv, hinc, a1, bs24]
    refine ⟨hlt, ?_, trivial, trivial, trivial, _, rfl, ?_, fun b hb => ?_, (hk.trans a3).less wf (fun x hx => .inr (hn1 x (by simpa using hx)))⟩
    · repeat (refine Sets.set ?_ _ (by decide) _)
      exact .refl
    · rw [ints_take _ _ _ hlt]; exact a2
    · have := hk.nb; simp [bid] at hb; omega
  · have d1 : decide ((i : Int) < (zs.length : Int)) = false := by simpa using hlt
    have hiz : i = zs.length := by omega
    subst hiz
    rw [List.take_length] at o1
    have hI : Ints st v1 .i64 zs := o1.vw
    have hgr := fun m => grown_ok (txt := txt) (m := m) N n v1 zs st hk.wf hI (by omega) (by omega) (by omega) (fun z hz' => by have := hz z hz'; omega)
    simp only [code_seq, seqK_normal, seqK_exit, seqK_ret, regK_leaf, code_region, code_cond, condK_true, condK_false, code_block, blkK_normal, blkK_ret, blkK_exit, code_skip, code_exit, code_ret, code_label, code_scope, bodyK_normal, bodyK_ret, retK_pair, aOpsY, aStepY, yldOf, isDefer, aStep, stepGen, stepCall, stepStore, guardOf, aOpV, opMove, opBin, opUn, opPick, opLoad, opIndexAddr, opExtract, opCall, opConv, atIx, lc, lf, lfb, lo, evalA, evalC, evalO, evalAs, evalCs, ofValue, ofCell, Option.map_some, Option.map_none, putT, aCallee, aUn, bLit, aExtract, Tr.get_set_if, TL.start_get, List.length_cons, List.length_nil, List.getElem?_cons_succ, List.getElem?_cons_zero, List.getElem?_nil, List.map_nil, List.map_cons, List.append_nil, List.nil_append, List.cons_append, bind_leaf, aBin, numOf, isShift, cmp_leq, cmp_lss, cmp_gtr, cmp_geq, cmp_eql, cmp_neq, arith_add, arith_sub, arith_mul, isLit, aArith, aPick, Option.elim_some, Option.elim_none, opsNo, Nat.reduceAdd, Nat.reduceSub, Nat.reduceLeDiff, Nat.reduceLT, Nat.reduceEqDiff, reduceIte, Bool.false_eq_true, Bool.true_eq_false, Bool.not_true, Bool.not_false, List.getElem?_toArray, Option.bind_some, Option.bind_none, endBody, aResults, aResL, aRes1, isV_c, isV_agg, isV_nil, isV_cons, isA_c, isA_agg, isC_il, isC_bl, isC_sl, isC_nsl, isC_sg, isC_sc, isC_pt, isC_npt, isC_fc, List.all_cons, List.all_nil, Bool.false_and, Bool.true_and, Bool.and_true, Bool.and_false, Bool.true_or, Bool.false_or, decide_true, decide_false, eq_self_iff_true, call_def, yld_def, opBuildSlice, evalPs, oneWord, runPl, takeG, aTake, isPure, flushL, List.isEmpty_nil, Bool.true_or, Bool.or_true, isAsk, keyG, keyK, nb_new, vc_leaf_eq, hlen, k0, k23, k24, h3, hc, hm, d1, b14]
    simp only [Tree.vc_bind]
    refine Tree.vc_monoS ?_ (hgr _)
    rintro ⟨r, st2⟩ m2 ⟨rfl, v2, v3, hr, o2, o3, hk2⟩
    simp only at hr o2 o3 hk2
    subst hr
    simp only [code_seq, seqK_normal, seqK_exit, seqK_ret, regK_leaf, code_region, code_cond, condK_true, condK_false, code_block, blkK_normal, blkK_ret, blkK_exit, code_skip, code_exit, code_ret, code_label, code_scope, bodyK_normal, bodyK_ret, retK_pair, aOpsY, aStepY, yldOf, isDefer, aStep, stepGen, stepCall, stepStore, guardOf, aOpV, opMove, opBin, opUn, opPick, opLoad, opIndexAddr, opExtract, opCall, opConv, atIx, lc, lf, lfb, lo, evalA, evalC, evalO, evalAs, evalCs, ofValue, ofCell, Option.map_some, Option.map_none, putT, aCallee, aUn, bLit, aExtract, Tr.get_set_if, TL.start_get, List.length_cons, List.length_nil, List.getElem?_cons_succ, List.getElem?_cons_zero, List.getElem?_nil, List.map_nil, List.map_cons, List.append_nil, List.nil_append, List.cons_append, bind_leaf, aBin, numOf, isShift, cmp_leq, cmp_lss, cmp_gtr, cmp_geq, cmp_eql, cmp_neq, arith_add, arith_sub, arith_mul, isLit, aArith, aPick, Option.elim_some, Option.elim_none, opsNo, Nat.reduceAdd, Nat.reduceSub, Nat.reduceLeDiff, Nat.reduceLT, Nat.reduceEqDiff, reduceIte, Bool.false_eq_true, Bool.true_eq_false, Bool.not_true, Bool.not_false, List.getElem?_toArray, Option.bind_some, Option.bind_none, endBody, aResults, aResL, aRes1, isV_c, isV_agg, isV_nil, isV_cons, isA_c, isA_agg, isC_il, isC_bl, isC_sl, isC_nsl, isC_sg, isC_sc, isC_pt, isC_npt, isC_fc, List.all_cons, List.all_nil, Bool.false_and, Bool.true_and, Bool.and_true, Bool.and_false, Bool.true_or, Bool.false_or, decide_true, decide_false, eq_self_iff_true, call_def, yld_def, opBuildSlice, evalPs, oneWord, runPl, takeG, aTake, isPure, flushL, List.isEmpty_nil, Bool.true_or, Bool.or_true, isAsk, keyG, keyK, nb_new, vc_leaf_eq, hlen, k0, k23, k24, h3, hc, hm, d1, b14]
    have hl1 := Vw.blen o2.vw u24
    have hl2 := Vw.blen o3.vw u24
    have hl3 := hl2
    have hsl := shs_length zs (zs.length - 1)
    rw [show zs.length - 1 + 1 = zs.length by omega] at hsl
    have hlv := Vw.blen hI u24
    have hw2 := hk2.wf
    have hk3 : Keep [] s st2 := (hk.trans hk2).less wf (fun x hx => .inr (by simp at hx))
    have hI2 : Ints st2 v1 .i64 zs := hI.keep hk2 (fun _ _ h => nomatch h)
    have hglen : (grs zs zs.length).length = zs.length - 1 := by
      have := grs_length zs (zs.length - 1)
      rwa [show zs.length - 1 + 1 = zs.length by omega] at this
    have hsum : (grs zs zs.length).sum = zs.getD (zs.length - 1) 0 - zs.getD 0 0 := by
      have := grs_sum zs (zs.length - 1)
      rwa [show zs.length - 1 + 1 = zs.length by omega] at this
    have hdec : IntKind.i64.wrap ((zs.length : Int) - 1) = ((zs.length - 1 : Nat) : Int) := by rw [wrap64 (by omega) (by omega)]; omega
    have e1 : decide (((grs zs zs.length).length : Int) = ((zs.length - 1 : Nat) : Int)) = true := by rw [hglen]; simp
    have e0 : decide ((0 : Int) = 0) = true := rfl
    simp only [Tree.vc_bind]
    refine vc_abs [(0, .v (.c v)), (3, .v (.c v1)), (6, .v (.c v2)), (7, .v (.c v3)), (8, .v (.c (.il .i64 0)))] 111 (by simp only [List.forall_mem_cons]; simp [Tr.get_set_if, k0, h3, hm]) (by simp only [Tr.all_set_iff]; exact hta) ?_
    clear h3 hc hm hta k0 k23 k24
    intro t hfac hm hta
    simp only [List.forall_mem_cons] at hfac
    obtain ⟨k0, k3, k6, k7, k8, -⟩ := hfac
    refine code_draw_vc (.take 0 (.take 1 (.take 2 (.take 3 (.take 4 (.take 5 (.take 6 (.take 7 (.take 8 (.take 9 (.take 10 (.take 11 (.take 13 (.take 14 (.take 15 (.take 16 (.take 17 (.take 18 (.take 19 (.take 20 (.take 21 (.take 22 (.key 12 [] false true (.take 23 (.take 24 (.fin [])))))))))))))))))))))))))) (by kernel_rfl) (by kernel_rfl) ?_
    generalize hH0 : heap0 _ _ = H
    obtain ⟨b, off, hbid, hidx, hload⟩ := Ints.at2 hI2 u24 z3 r3 (by omega)
    have hH : VM.look H b = VM.look st2.heap b := by rw [← hH0]; exact heap0_look (v := v1) 18 3 (by kernel_rfl) k3 (by rw [hbid]; simp)
    have hhas : heapHas H st2.heap = true := by rw [← hH0]; exact Keep.has (Keep.refl hw2) hw2 _ _
    clear hH0
    have hx1 := hidx .i64 (zs.length - 1) (by omega)
    have hx2 : aIndexAddr Tryz.prog 24 v1 (.il .i64 0) = some (.pt b (off + 0)) := hidx .i64 0 (by omega)
    have hy1 := (aLoad_at_heap (P := Tryz.prog) hH 3 (off + (zs.length - 1))).trans (hload (zs.length - 1) (by omega))
    have hy2 := (aLoad_at_heap (P := Tryz.prog) hH 3 (off + 0)).trans (hload 0 (by omega))
    simp only [code_seq, seqK_normal, seqK_exit, seqK_ret, regK_leaf, code_region, code_cond, condK_true, condK_false, code_block, blkK_normal, blkK_ret, blkK_exit, code_skip, code_exit, code_ret, code_label, code_scope, bodyK_normal, bodyK_ret, retK_pair, aOpsY, aStepY, yldOf, isDefer, aStep, stepGen, stepCall, stepStore, guardOf, aOpV, opMove, opBin, opUn, opPick, opLoad, opIndexAddr, opExtract, opCall, opConv, atIx, lc, lf, lfb, lo, evalA, evalC, evalO, evalAs, evalCs, ofValue, ofCell, Option.map_some, Option.map_none, putT, aCallee, aUn, bLit, aExtract, Tr.get_set_if, TL.start_get, List.length_cons, List.length_nil, List.getElem?_cons_succ, List.getElem?_cons_zero, List.getElem?_nil, List.map_nil, List.map_cons, List.append_nil, List.nil_append, List.cons_append, bind_leaf, aBin, numOf, isShift, cmp_leq, cmp_lss, cmp_gtr, cmp_geq, cmp_eql, cmp_neq, arith_add, arith_sub, arith_mul, isLit, aArith, aPick, Option.elim_some, Option.elim_none, opsNo, Nat.reduceAdd, Nat.reduceSub, Nat.reduceLeDiff, Nat.reduceLT, Nat.reduceEqDiff, reduceIte, Bool.false_eq_true, Bool.true_eq_false, Bool.not_true, Bool.not_false, List.getElem?_toArray, Option.bind_some, Option.bind_none, endBody, aResults, aResL, aRes1, isV_c, isV_agg, isV_nil, isV_cons, isA_c, isA_agg, isC_il, isC_bl, isC_sl, isC_nsl, isC_sg, isC_sc, isC_pt, isC_npt, isC_fc, List.all_cons, List.all_nil, Bool.false_and, Bool.true_and, Bool.and_true, Bool.and_false, Bool.true_or, Bool.false_or, decide_true, decide_false, eq_self_iff_true, call_def, yld_def, opBuildSlice, evalPs, oneWord, runPl, takeG, aTake, isPure, flushL, List.isEmpty_nil, Bool.true_or, Bool.or_true, isAsk, keyG, keyK, nb_new, vc_leaf_eq, hlen, k0, k3, k6, k7, k8, hm, hl1, hdec, e1, e0, hx1, hx2, hy1, hy2, b15]
    simp only [Tree.vc_bind]
    refine Tree.vc_monoS ?_ (sum_ok N (n+4) v2 (grs zs zs.length) st2 hw2 o2.vw (by omega) (by omega) (fun z hz' => by have := grs_mem zs hz _ z hz'; omega))
    rintro _ m3 ⟨rfl, rfl⟩
    have hs1 : IntKind.i64.wrap (zs[zs.length - 1] - zs[0]) = (grs zs zs.length).sum := by
      have q1 := hz zs[zs.length - 1] (List.getElem_mem (by omega))
      have q2 := hz zs[0] (List.getElem_mem (by omega))
      rw [wrap64 (by omega) (by omega), hsum]
      rw [show zs.getD (zs.length - 1) 0 = zs[zs.length - 1] by rw [List.getD_eq_getElem?_getD, List.getElem?_eq_getElem (by omega)]; rfl, show zs.getD 0 0 = zs[0] by rw [List.getD_eq_getElem?_getD, List.getElem?_eq_getElem (by omega)]; rfl]
    have hs2 : decide ((grs zs zs.length).sum = (grs zs zs.length).sum) = true := by simp
    simp only [code_seq, seqK_normal, seqK_exit, seqK_ret, regK_leaf, code_region, code_cond, condK_true, condK_false, code_block, blkK_normal, blkK_ret, blkK_exit, code_skip, code_exit, code_ret, code_label, code_scope, bodyK_normal, bodyK_ret, retK_pair, aOpsY, aStepY, yldOf, isDefer, aStep, stepGen, stepCall, stepStore, guardOf, aOpV, opMove, opBin, opUn, opPick, opLoad, opIndexAddr, opExtract, opCall, opConv, atIx, lc, lf, lfb, lo, evalA, evalC, evalO, evalAs, evalCs, ofValue, ofCell, Option.map_some, Option.map_none, putT, aCallee, aUn, bLit, aExtract, Tr.get_set_if, TL.start_get, List.length_cons, List.length_nil, List.getElem?_cons_succ, List.getElem?_cons_zero, List.getElem?_nil, List.map_nil, List.map_cons, List.append_nil, List.nil_append, List.cons_append, bind_leaf, aBin, numOf, isShift, cmp_leq, cmp_lss, cmp_gtr, cmp_geq, cmp_eql, cmp_neq, arith_add, arith_sub, arith_mul, isLit, aArith, aPick, Option.elim_some, Option.elim_none, opsNo, Nat.reduceAdd, Nat.reduceSub, Nat.reduceLeDiff, Nat.reduceLT, Nat.reduceEqDiff, reduceIte, Bool.false_eq_true, Bool.true_eq_false, Bool.not_true, Bool.not_false, List.getElem?_toArray, Option.bind_some, Option.bind_none, endBody, aResults, aResL, aRes1, isV_c, isV_agg, isV_nil, isV_cons, isA_c, isA_agg, isC_il, isC_bl, isC_sl, isC_nsl, isC_sg, isC_sc, isC_pt, isC_npt, isC_fc, List.all_cons, List.all_nil, Bool.false_and, Bool.true_and, Bool.and_true, Bool.and_false, Bool.true_or, Bool.false_or, decide_true, decide_false, eq_self_iff_true, call_def, yld_def, opBuildSlice, evalPs, oneWord, runPl, takeG, aTake, isPure, flushL, List.isEmpty_nil, Bool.true_or, Bool.or_true, isAsk, keyG, keyK, nb_new, vc_leaf_eq, hlen, k0, k3, k6, k7, k8, hm, hl1, hdec, e1, e0, hx1, hx2, hy1, hy2, b15, hhas, hs1, hs2]
    simp only [Tree.vc_bind]
    rw [code_loop]
    refine vc_range [2, 9, 10, 11, 68, 69, 70, 71, 72, 73, 74, 75, 76] [(0, .v (.c v)), (3, .v (.c v1)), (7, .v (.c v3)), (66, .v (.c v2)), (67, .v (.c (.il .i64 (grs zs zs.length).length)))] 111 68 (grs zs zs.length).length
      (fun i t st m1 => m1 = m3 ∧ st = st2 ∧ t.get 9 = some (.v (.c (.il .i64 (((grs zs zs.length).take i).countP (fun g => decide (g < 0)) : Nat)))))
      (by simp) (by simp only [List.forall_mem_cons]; simp [Tr.get_set_if, k0, k3, k6, k7, hm]) (by simp only [Tr.all_set_iff]; exact hta) (by simp [Tr.get_set_if, hm]) (by omega) ⟨rfl, rfl, by simp [Tr.get_set_if, hm]⟩ ?_
    clear hm hta k0 k3 k6 k7 k8
    rintro i t st m1 hi hfac hm hta hc ⟨rfl, rfl, h9⟩
    simp only [List.forall_mem_cons] at hfac
    obtain ⟨k0, k3, k7, k66, k67, -⟩ := hfac
    by_cases hlt : i < (grs zs zs.length).length
    · obtain ⟨b, off, hbid, hidx, hload⟩ := Ints.at2 o2.vw u24 z3 r3 (by omega)
      have d1 : decide ((i : Int) < ((grs zs zs.length).length : Int)) = true := by simpa using hlt
      have hx := hidx .i64 i hlt
      have hy := hload i hlt
      have hinc : IntKind.i64.wrap ((i : Int) + 1) = ((i + 1 : Nat) : Int) := by rw [wrap64 (by omega) (by omega)]; rfl
      have hcnt : ((grs zs zs.length).take i).countP (fun g => decide (g < 0)) ≤ i := by
        have := List.countP_le_length (p := fun g : Int => decide (g < 0)) (l := (grs zs zs.length).take i)
        rw [List.length_take] at this; omega
      have htk : ((grs zs zs.length).take (i + 1)).countP (fun g => decide (g < 0)) = ((grs zs zs.length).take i).countP (fun g => decide (g < 0)) + if decide ((grs zs zs.length)[i] < 0) = true then 1 else 0 := by
        rw [List.take_succ_eq_append_getElem hlt, List.countP_append]; simp [List.countP_cons]
      cases hneg : decide ((grs zs zs.length)[i] < 0) with
      | true =>
        rw [hneg] at htk
        have hinc2 : IntKind.i64.wrap ((((grs zs zs.length).take i).countP (fun g => decide (g < 0)) : Nat) + 1 : Int) = ((((grs zs zs.length).take (i + 1)).countP (fun g => decide (g < 0)) : Nat) : Int) := by rw [wrap64 (by omega) (by omega), htk]; rfl
        simp only [code_seq, seqK_normal, seqK_exit, seqK_ret, regK_leaf, code_region, code_cond, condK_true, condK_false, code_block, blkK_normal, blkK_ret, blkK_exit, code_skip, code_exit, code_ret, code_label, code_scope, bodyK_normal, bodyK_ret, retK_pair, aOpsY, aStepY, yldOf, isDefer, aStep, stepGen, stepCall, stepStore, guardOf, aOpV, opMove, opBin, opUn, opPick, opLoad, opIndexAddr, opExtract, opCall, opConv, atIx, lc, lf, lfb, lo, evalA, evalC, evalO, evalAs, evalCs, ofValue, ofCell, Option.map_some, Option.map_none, putT, aCallee, aUn, bLit, aExtract, Tr.get_set_if, TL.start_get, List.length_cons, List.length_nil, List.getElem?_cons_succ, List.getElem?_cons_zero, List.getElem?_nil, List.map_nil, List.map_cons, List.append_nil, List.nil_append, List.cons_append, bind_leaf, aBin, numOf, isShift, cmp_leq, cmp_lss, cmp_gtr, cmp_geq, cmp_eql, cmp_neq, arith_add, arith_sub, arith_mul, isLit, aArith, aPick, Option.elim_some, Option.elim_none, opsNo, Nat.reduceAdd, Nat.reduceSub, Nat.reduceLeDiff, Nat.reduceLT, Nat.reduceEqDiff, reduceIte, Bool.false_eq_true, Bool.true_eq_false, Bool.not_true, Bool.not_false, List.getElem?_toArray, Option.bind_some, Option.bind_none, endBody, aResults, aResL, aRes1, isV_c, isV_agg, isV_nil, isV_cons, isA_c, isA_agg, isC_il, isC_bl, isC_sl, isC_nsl, isC_sg, isC_sc, isC_pt, isC_npt, isC_fc, List.all_cons, List.all_nil, Bool.false_and, Bool.true_and, Bool.and_true, Bool.and_false, Bool.true_or, Bool.false_or, decide_true, decide_false, eq_self_iff_true, call_def, yld_def, opBuildSlice, evalPs, oneWord, runPl, takeG, aTake, isPure, flushL, List.isEmpty_nil, Bool.true_or, Bool.or_true, isAsk, keyG, keyK, nb_new, vc_leaf_eq, hlen, k0, k3, k7, k66, k67, h9, hc, hm, d1, hx, hy, hinc, hneg, hinc2]
        refine ⟨hlt, ?_, trivial, trivial, trivial, trivial, trivial⟩
        repeat (refine Sets.set ?_ _ (by decide) _)
        exact .refl
      | false =>
        rw [hneg] at htk
        simp only [code_seq, seqK_normal, seqK_exit, seqK_ret, regK_leaf, code_region, code_cond, condK_true, condK_false, code_block, blkK_normal, blkK_ret, blkK_exit, code_skip, code_exit, code_ret, code_label, code_scope, bodyK_normal, bodyK_ret, retK_pair, aOpsY, aStepY, yldOf, isDefer, aStep, stepGen, stepCall, stepStore, guardOf, aOpV, opMove, opBin, opUn, opPick, opLoad, opIndexAddr, opExtract, opCall, opConv, atIx, lc, lf, lfb, lo, evalA, evalC, evalO, evalAs, evalCs, ofValue, ofCell, Option.map_some, Option.map_none, putT, aCallee, aUn, bLit, aExtract, Tr.get_set_if, TL.start_get, List.length_cons, List.length_nil, List.getElem?_cons_succ, List.getElem?_cons_zero, List.getElem?_nil, List.map_nil, List.map_cons, List.append_nil, List.nil_append, List.cons_append, bind_leaf, aBin, numOf, isShift, cmp_leq, cmp_lss, cmp_gtr, cmp_geq, cmp_eql, cmp_neq, arith_add, arith_sub, arith_mul, isLit, aArith, aPick, Option.elim_some, Option.elim_none, opsNo, Nat.reduceAdd, Nat.reduceSub, Nat.reduceLeDiff, Nat.reduceLT, Nat.reduceEqDiff, reduceIte, Bool.false_eq_true, Bool.true_eq_false, Bool.not_true, Bool.not_false, List.getElem?_toArray, Option.bind_some, Option.bind_none, endBody, aResults, aResL, aRes1, isV_c, isV_agg, isV_nil, isV_cons, isA_c, isA_agg, isC_il, isC_bl, isC_sl, isC_nsl, isC_sg, isC_sc, isC_pt, isC_npt, isC_fc, List.all_cons, List.all_nil, Bool.false_and, Bool.true_and, Bool.and_true, Bool.and_false, Bool.true_or, Bool.false_or, decide_true, decide_false, eq_self_iff_true, call_def, yld_def, opBuildSlice, evalPs, oneWord, runPl, takeG, aTake, isPure, flushL, List.isEmpty_nil, Bool.true_or, Bool.or_true, isAsk, keyG, keyK, nb_new, vc_leaf_eq, hlen, k0, k3, k7, k66, k67, h9, hc, hm, d1, hx, hy, hinc, hneg]
        refine ⟨hlt, ?_, trivial, trivial, trivial, trivial, by rw [htk]; rfl⟩
        repeat (refine Sets.set ?_ _ (by decide) _)
        exact .refl
    · have d1 : decide ((i : Int) < ((grs zs zs.length).length : Int)) = false := by simpa using hlt
      have hiz : i = (grs zs zs.length).length := by omega
      subst hiz
      rw [List.take_length] at h9
      simp only [code_seq, seqK_normal, seqK_exit, seqK_ret, regK_leaf, code_region, code_cond, condK_true, condK_false, code_block, blkK_normal, blkK_ret, blkK_exit, code_skip, code_exit, code_ret, code_label, code_scope, bodyK_normal, bodyK_ret, retK_pair, aOpsY, aStepY, yldOf, isDefer, aStep, stepGen, stepCall, stepStore, guardOf, aOpV, opMove, opBin, opUn, opPick, opLoad, opIndexAddr, opExtract, opCall, opConv, atIx, lc, lf, lfb, lo, evalA, evalC, evalO, evalAs, evalCs, ofValue, ofCell, Option.map_some, Option.map_none, putT, aCallee, aUn, bLit, aExtract, Tr.get_set_if, TL.start_get, List.length_cons, List.length_nil, List.getElem?_cons_succ, List.getElem?_cons_zero, List.getElem?_nil, List.map_nil, List.map_cons, List.append_nil, List.nil_append, List.cons_append, bind_leaf, aBin, numOf, isShift, cmp_leq, cmp_lss, cmp_gtr, cmp_geq, cmp_eql, cmp_neq, arith_add, arith_sub, arith_mul, isLit, aArith, aPick, Option.elim_some, Option.elim_none, opsNo, Nat.reduceAdd, Nat.reduceSub, Nat.reduceLeDiff, Nat.reduceLT, Nat.reduceEqDiff, reduceIte, Bool.false_eq_true, Bool.true_eq_false, Bool.not_true, Bool.not_false, List.getElem?_toArray, Option.bind_some, Option.bind_none, endBody, aResults, aResL, aRes1, isV_c, isV_agg, isV_nil, isV_cons, isA_c, isA_agg, isC_il, isC_bl, isC_sl, isC_nsl, isC_sg, isC_sc, isC_pt, isC_npt, isC_fc, List.all_cons, List.all_nil, Bool.false_and, Bool.true_and, Bool.and_true, Bool.and_false, Bool.true_or, Bool.false_or, decide_true, decide_false, eq_self_iff_true, call_def, yld_def, opBuildSlice, evalPs, oneWord, runPl, takeG, aTake, isPure, flushL, List.isEmpty_nil, Bool.true_or, Bool.or_true, isAsk, keyG, keyK, nb_new, vc_leaf_eq, hlen, k0, k3, k7, k66, k67, h9, hc, hm, d1, hl2, Tree.vc_bind]
      rw [code_loop]
      refine vc_range [2, 12, 13, 79, 80, 81, 82, 83, 84, 85, 86, 87, 88, 89, 90, 91, 92, 93, 94, 95, 96, 97, 98, 99, 100, 101, 102, 103] [(0, .v (.c v)), (3, .v (.c v1)), (7, .v (.c v3)), (9, .v (.c (.il .i64 ((grs zs zs.length).countP (fun g => decide (g < 0)) : Nat)))), (77, .v (.c v3)), (78, .v (.c (.il .i64 (shs zs zs.length).length)))] 111 79 (shs zs zs.length).length
        (fun i t st' m1' => m1' = m1 ∧ st' = st)
        (by simp) (by simp only [List.forall_mem_cons]; simp [Tr.get_set_if, k0, k3, k7, h9, hm]) (by simp only [Tr.all_set_iff]; exact hta) (by simp [Tr.get_set_if, hm]) (by have := shs_length zs (zs.length - 1); rw [show zs.length - 1 + 1 = zs.length by omega] at this; omega) ⟨rfl, rfl⟩ ?_
      clear hm hta k0 k3 k7 k66 k67 h9 hc d1 hi hlt
      rintro i t st' m1' hi hfac hm hta hc ⟨rfl, rfl⟩
      simp only [List.forall_mem_cons] at hfac
      obtain ⟨k0, k3, k7, k9, k77, k78, -⟩ := hfac
      by_cases hlt : i < (shs zs zs.length).length
      · obtain ⟨b, off, hbid, hidx, hload⟩ := Ints.at2 o3.vw u24 z3 r3 (by omega)
        have d1 : decide ((i : Int) < ((shs zs zs.length).length : Int)) = true := by simpa using hlt
        have hx := hidx .i64 i hlt
        have hy := hload i hlt
        have hinc : IntKind.i64.wrap ((i : Int) + 1) = ((i + 1 : Nat) : Int) := by rw [wrap64 (by omega) (by omega)]; rfl
        obtain ⟨y, hye, hy1, hyn, hyneg⟩ := shs_mem zs zs.length _ (List.getElem_mem hlt)
        rw [hye] at hy
        simp only [code_seq, seqK_normal, seqK_exit, seqK_ret, regK_leaf, code_region, code_cond, condK_true, condK_false, code_block, blkK_normal, blkK_ret, blkK_exit, code_skip, code_exit, code_ret, code_label, code_scope, bodyK_normal, bodyK_ret, retK_pair, aOpsY, aStepY, yldOf, isDefer, aStep, stepGen, stepCall, stepStore, guardOf, aOpV, opMove, opBin, opUn, opPick, opLoad, opIndexAddr, opExtract, opCall, opConv, atIx, lc, lf, lfb, lo, evalA, evalC, evalO, evalAs, evalCs, ofValue, ofCell, Option.map_some, Option.map_none, putT, aCallee, aUn, bLit, aExtract, Tr.get_set_if, TL.start_get, List.length_cons, List.length_nil, List.getElem?_cons_succ, List.getElem?_cons_zero, List.getElem?_nil, List.map_nil, List.map_cons, List.append_nil, List.nil_append, List.cons_append, bind_leaf, aBin, numOf, isShift, cmp_leq, cmp_lss, cmp_gtr, cmp_geq, cmp_eql, cmp_neq, arith_add, arith_sub, arith_mul, isLit, aArith, aPick, Option.elim_some, Option.elim_none, opsNo, Nat.reduceAdd, Nat.reduceSub, Nat.reduceLeDiff, Nat.reduceLT, Nat.reduceEqDiff, reduceIte, Bool.false_eq_true, Bool.true_eq_false, Bool.not_true, Bool.not_false, List.getElem?_toArray, Option.bind_some, Option.bind_none, endBody, aResults, aResL, aRes1, isV_c, isV_agg, isV_nil, isV_cons, isA_c, isA_agg, isC_il, isC_bl, isC_sl, isC_nsl, isC_sg, isC_sc, isC_pt, isC_npt, isC_fc, List.all_cons, List.all_nil, Bool.false_and, Bool.true_and, Bool.and_true, Bool.and_false, Bool.true_or, Bool.false_or, decide_true, decide_false, eq_self_iff_true, call_def, yld_def, opBuildSlice, evalPs, oneWord, runPl, takeG, aTake, isPure, flushL, List.isEmpty_nil, Bool.true_or, Bool.or_true, isAsk, keyG, keyK, nb_new, vc_leaf_eq, hlen, k0, k3, k7, k9, k77, k78, hc, hm, d1, hx, hy, Tree.vc_bind]
        refine code_draw_vc (.take 0 (.take 1 (.take 2 (.take 3 (.take 4 (.take 5 (.take 6 (.take 7 (.take 8 (.take 9 (.take 10 (.take 11 (.take 12 (.take 13 (.take 14 (.take 15 (.take 16 (.take 17 (.take 18 (.take 19 (.fin []))))))))))))))))))))) (by kernel_rfl) (by kernel_rfl) ?_
        generalize hH0 : heap0 _ _ = H
        obtain ⟨b2, off2, hbid2, hidx2, hload2⟩ := Ints.at2 hI2 u24 z3 r3 (by omega)
        have hH : VM.look H b2 = VM.look st'.heap b2 := by rw [← hH0]; exact heap0_look (v := v1) 12 3 (by kernel_rfl) (by simp [Tr.get_set_if, k3]) (by rw [hbid2]; simp)
        clear hH0
        have hdecy : IntKind.i64.wrap ((y : Int) - 1) = ((y - 1 : Nat) : Int) := by rw [wrap64 (by omega) (by omega)]; omega
        have hx1 := hidx2 .i64 y hyn
        have hx2 := hidx2 .i64 (y - 1) (by omega)
        have hy1' := (aLoad_at_heap (P := Tryz.prog) hH 3 (off2 + y)).trans (hload2 y hyn)
        have hy2' := (aLoad_at_heap (P := Tryz.prog) hH 3 (off2 + (y - 1))).trans (hload2 (y - 1) (by omega))
        have c1 : decide ((y : Int) < 1) = false := by simp; omega
        have c2 : decide ((zs.length : Int) ≤ (y : Int)) = false := by simp; omega
        have c3 : decide (zs[y - 1] ≤ zs[y]) = false := by
          rw [show zs.getD y 0 = zs[y] by simp [hyn], show zs.getD (y - 1) 0 = zs[y - 1] by rw [List.getD_eq_getElem?_getD, List.getElem?_eq_getElem (by omega)]; rfl] at hyneg
          simp; omega
        simp only [code_seq, seqK_normal, seqK_exit, seqK_ret, regK_leaf, code_region, code_cond, condK_true, condK_false, code_block, blkK_normal, blkK_ret, blkK_exit, code_skip, code_exit, code_ret, code_label, code_scope, bodyK_normal, bodyK_ret, retK_pair, aOpsY, aStepY, yldOf, isDefer, aStep, stepGen, stepCall, stepStore, guardOf, aOpV, opMove, opBin, opUn, opPick, opLoad, opIndexAddr, opExtract, opCall, opConv, atIx, lc, lf, lfb, lo, evalA, evalC, evalO, evalAs, evalCs, ofValue, ofCell, Option.map_some, Option.map_none, putT, aCallee, aUn, bLit, aExtract, Tr.get_set_if, TL.start_get, List.length_cons, List.length_nil, List.getElem?_cons_succ, List.getElem?_cons_zero, List.getElem?_nil, List.map_nil, List.map_cons, List.append_nil, List.nil_append, List.cons_append, bind_leaf, aBin, numOf, isShift, cmp_leq, cmp_lss, cmp_gtr, cmp_geq, cmp_eql, cmp_neq, arith_add, arith_sub, arith_mul, isLit, aArith, aPick, Option.elim_some, Option.elim_none, opsNo, Nat.reduceAdd, Nat.reduceSub, Nat.reduceLeDiff, Nat.reduceLT, Nat.reduceEqDiff, reduceIte, Bool.false_eq_true, Bool.true_eq_false, Bool.not_true, Bool.not_false, List.getElem?_toArray, Option.bind_some, Option.bind_none, endBody, aResults, aResL, aRes1, isV_c, isV_agg, isV_nil, isV_cons, isA_c, isA_agg, isC_il, isC_bl, isC_sl, isC_nsl, isC_sg, isC_sc, isC_pt, isC_npt, isC_fc, List.all_cons, List.all_nil, Bool.false_and, Bool.true_and, Bool.and_true, Bool.and_false, Bool.true_or, Bool.false_or, decide_true, decide_false, eq_self_iff_true, call_def, yld_def, opBuildSlice, evalPs, oneWord, runPl, takeG, aTake, isPure, flushL, List.isEmpty_nil, Bool.true_or, Bool.or_true, isAsk, keyG, keyK, nb_new, vc_leaf_eq, hlen, k0, k3, k7, k9, k77, k78, hc, hm, d1, hdecy, hx1, hx2, hy1', hy2', c1, c2, c3, hinc]
        refine ⟨hlt, ?_, trivial, trivial, trivial, trivial⟩
        repeat (refine Sets.set ?_ _ (by decide) _)
        exact .refl
      · have d1 : decide ((i : Int) < ((shs zs zs.length).length : Int)) = false := by simpa using hlt
        have hcnt : decide (((shs zs zs.length).length : Int) = ((grs zs zs.length).countP (fun g => decide (g < 0)) : Nat)) = true := by
          rw [shs_count]; simp
        simp only [code_seq, seqK_normal, seqK_exit, seqK_ret, regK_leaf, code_region, code_cond, condK_true, condK_false, code_block, blkK_normal, blkK_ret, blkK_exit, code_skip, code_exit, code_ret, code_label, code_scope, bodyK_normal, bodyK_ret, retK_pair, aOpsY, aStepY, yldOf, isDefer, aStep, stepGen, stepCall, stepStore, guardOf, aOpV, opMove, opBin, opUn, opPick, opLoad, opIndexAddr, opExtract, opCall, opConv, atIx, lc, lf, lfb, lo, evalA, evalC, evalO, evalAs, evalCs, ofValue, ofCell, Option.map_some, Option.map_none, putT, aCallee, aUn, bLit, aExtract, Tr.get_set_if, TL.start_get, List.length_cons, List.length_nil, List.getElem?_cons_succ, List.getElem?_cons_zero, List.getElem?_nil, List.map_nil, List.map_cons, List.append_nil, List.nil_append, List.cons_append, bind_leaf, aBin, numOf, isShift, cmp_leq, cmp_lss, cmp_gtr, cmp_geq, cmp_eql, cmp_neq, arith_add, arith_sub, arith_mul, isLit, aArith, aPick, Option.elim_some, Option.elim_none, opsNo, Nat.reduceAdd, Nat.reduceSub, Nat.reduceLeDiff, Nat.reduceLT, Nat.reduceEqDiff, reduceIte, Bool.false_eq_true, Bool.true_eq_false, Bool.not_true, Bool.not_false, List.getElem?_toArray, Option.bind_some, Option.bind_none, endBody, aResults, aResL, aRes1, isV_c, isV_agg, isV_nil, isV_cons, isA_c, isA_agg, isC_il, isC_bl, isC_sl, isC_nsl, isC_sg, isC_sc, isC_pt, isC_npt, isC_fc, List.all_cons, List.all_nil, Bool.false_and, Bool.true_and, Bool.and_true, Bool.and_false, Bool.true_or, Bool.false_or, decide_true, decide_false, eq_self_iff_true, call_def, yld_def, opBuildSlice, evalPs, oneWord, runPl, takeG, aTake, isPure, flushL, List.isEmpty_nil, Bool.true_or, Bool.or_true, isAsk, keyG, keyK, nb_new, vc_leaf_eq, hlen, k0, k3, k7, k9, k77, k78, hc, hm, d1, hl3, hcnt, b13, haw]
end
end Go.Proofs.YtlncagdekfjinaaGreatDoor.bud
