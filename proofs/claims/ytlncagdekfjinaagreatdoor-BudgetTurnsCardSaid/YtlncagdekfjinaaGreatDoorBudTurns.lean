import Derived.Test.YtlncagdekfjinaaGreatDoorBud0
namespace Go.Proofs.YtlncagdekfjinaaGreatDoor.bud
open Go.RowKit Go.Proofs.VM
noncomputable section
set_option maxRecDepth 100000
set_option linter.unusedSimpArgs false
variable {txt : Rat → List UInt8} {m : M}
theorem arith_rem (s : St) (k : IntKind) (x y : Int) (h : y ≠ 0) : aArith s .rem k (.l x) (.l y) = .leaf (.v (.c (.il k (x.tmod y))), s) := by
  show (if y = 0 then _ else _) = _
  rw [if_neg h]
/-- Which run of a list a number falls in, and how far. -/
def spot : List Int → Int → Nat × Int
  | [], r => (0, r)
  | z :: zs, r => if z ≤ r then ((spot zs (r - z)).1 + 1, (spot zs (r - z)).2) else (0, r)
def minB (z : Int) : Bool := decide (1 ≤ z) && decide (z ≤ 1440)
def whichF (zs : List Int) (minute : Int) : Int × Int × Int :=
  if zs.length < 1 ∨ 8 < zs.length then (0, 0, 4)
  else if zs.all minB = false then (0, 0, 1)
  else if minute < 0 ∨ 1099511627776 < minute then (0, 0, 1)
  else (((spot zs (minute.tmod zs.sum)).1 : Nat), (spot zs (minute.tmod zs.sum)).2, 0)
theorem sum_min : ∀ {zs : List Int}, (∀ z ∈ zs, 1 ≤ z ∧ z ≤ 1440) → (zs.length : Int) ≤ zs.sum ∧ zs.sum ≤ 1440 * zs.length
  | [], _ => by simp
  | z :: zs, h => by
    have h1 := h z (by simp)
    have h2 := sum_min (zs := zs) fun z hz => h z (by simp [hz])
    simp only [List.sum_cons, List.length_cons]
    push_cast; omega
theorem which_ok (N n : Nat) (v : CV) (zs : List Int) (minute : Int) (s : St) (hw : Wf s) (hv : Ints s v .i64 zs) (hN : 100 < N) (hl : zs.length < 1000000) :
    (call N (n+2) 16 [.c v, .c (.il .i64 minute)] s).vc txt m fun r m' => r = (.tup [.c (.il .i64 (whichF zs minute).1), .c (.il .i64 (whichF zs minute).2.1), .c (.il .i64 (whichF zs minute).2.2)], s) ∧ m' = m := by
  have hlen := Vw.blen hv u24
  have wf := hw
  have hself := hw.self
  have hw := hw.self
  have hb := fun (x a b : Int) => between_eq N n x a b s wf
  rw [call_body _ _ _ _ _ rfl Tryz.func16 rfl]
  simp only [Tryz.f16]
  by_cases hc : zs.length < 1 ∨ 8 < zs.length
  · have d1 : (decide ((1 : Int) ≤ (zs.length : Int)) && decide ((zs.length : Int) ≤ 8)) = false := by
      rcases hc with h | h
      · simp; omega
      · simp; omega
    have hF : whichF zs minute = (0, 0, 4) := by unfold whichF; rw [if_pos hc]
    simp only [code_seq, seqK_normal, seqK_exit, seqK_ret, regK_leaf, code_region, code_cond, condK_true, condK_false, code_block, blkK_normal, blkK_ret, blkK_exit, code_skip, code_exit, code_ret, code_label, code_scope, bodyK_normal, bodyK_ret, retK_pair, aOpsY, aStepY, yldOf, isDefer, aStep, stepGen, stepCall, stepStore, guardOf, aOpV, opMove, opBin, opUn, opPick, opLoad, opIndexAddr, opExtract, opCall, opConv, atIx, lc, lf, lfb, lo, evalA, evalC, evalO, evalAs, evalCs, ofValue, ofCell, Option.map_some, Option.map_none, putT, aCallee, aUn, bLit, aExtract, Tr.get_set_if, TL.start_get, List.length_cons, List.length_nil, List.getElem?_cons_succ, List.getElem?_cons_zero, List.getElem?_nil, List.map_nil, List.map_cons, List.append_nil, List.nil_append, List.cons_append, bind_leaf, aBin, numOf, isShift, cmp_leq, cmp_lss, cmp_gtr, cmp_geq, cmp_eql, cmp_neq, arith_add, arith_sub, arith_mul, isLit, aArith, aPick, Option.elim_some, Option.elim_none, opsNo, Nat.reduceAdd, Nat.reduceSub, Nat.reduceLeDiff, Nat.reduceLT, Nat.reduceEqDiff, reduceIte, Bool.false_eq_true, Bool.true_eq_false, Bool.not_true, Bool.not_false, List.getElem?_toArray, Option.bind_some, Option.bind_none, endBody, aResults, aResL, aRes1, isV_c, isV_agg, isV_nil, isV_cons, isA_c, isA_agg, isC_il, isC_bl, isC_sl, isC_nsl, isC_sg, isC_sc, isC_pt, isC_npt, isC_fc, List.all_cons, List.all_nil, Bool.false_and, Bool.true_and, Bool.and_true, Bool.and_false, Bool.true_or, Bool.false_or, decide_true, decide_false, eq_self_iff_true, call_def, yld_def, opBuildSlice, evalPs, oneWord, runPl, takeG, aTake, isPure, flushL, List.isEmpty_nil, Bool.true_or, Bool.or_true, isAsk, keyG, keyK, nb_new, vc_leaf_eq, hlen, b64, hb, d1, hw, hF]
    exact ⟨trivial, trivial⟩
  have d1 : (decide ((1 : Int) ≤ (zs.length : Int)) && decide ((zs.length : Int) ≤ 8)) = true := by simp; omega
  simp only [code_seq, seqK_normal, seqK_exit, seqK_ret, regK_leaf, code_region, code_cond, condK_true, condK_false, code_block, blkK_normal, blkK_ret, blkK_exit, code_skip, code_exit, code_ret, code_label, code_scope, bodyK_normal, bodyK_ret, retK_pair, aOpsY, aStepY, yldOf, isDefer, aStep, stepGen, stepCall, stepStore, guardOf, aOpV, opMove, opBin, opUn, opPick, opLoad, opIndexAddr, opExtract, opCall, opConv, atIx, lc, lf, lfb, lo, evalA, evalC, evalO, evalAs, evalCs, ofValue, ofCell, Option.map_some, Option.map_none, putT, aCallee, aUn, bLit, aExtract, Tr.get_set_if, TL.start_get, List.length_cons, List.length_nil, List.getElem?_cons_succ, List.getElem?_cons_zero, List.getElem?_nil, List.map_nil, List.map_cons, List.append_nil, List.nil_append, List.cons_append, bind_leaf, aBin, numOf, isShift, cmp_leq, cmp_lss, cmp_gtr, cmp_geq, cmp_eql, cmp_neq, arith_add, arith_sub, arith_mul, isLit, aArith, aPick, Option.elim_some, Option.elim_none, opsNo, Nat.reduceAdd, Nat.reduceSub, Nat.reduceLeDiff, Nat.reduceLT, Nat.reduceEqDiff, reduceIte, Bool.false_eq_true, Bool.true_eq_false, Bool.not_true, Bool.not_false, List.getElem?_toArray, Option.bind_some, Option.bind_none, endBody, aResults, aResL, aRes1, isV_c, isV_agg, isV_nil, isV_cons, isA_c, isA_agg, isC_il, isC_bl, isC_sl, isC_nsl, isC_sg, isC_sc, isC_pt, isC_npt, isC_fc, List.all_cons, List.all_nil, Bool.false_and, Bool.true_and, Bool.and_true, Bool.and_false, Bool.true_or, Bool.false_or, decide_true, decide_false, eq_self_iff_true, call_def, yld_def, opBuildSlice, evalPs, oneWord, runPl, takeG, aTake, isPure, flushL, List.isEmpty_nil, Bool.true_or, Bool.or_true, isAsk, keyG, keyK, nb_new, vc_leaf_eq, hlen, b64, hb, d1, Tree.vc_bind]
  rw [code_loop]
  refine vc_range [7, 9, 16, 17, 18, 19, 20, 21, 22, 23, 24, 25, 26] [(0, .v (.c v)), (1, .v (.c (.il .i64 minute))), (4, .v (.c (.il .i64 0))), (5, .v (.c (.il .i64 0))), (14, .v (.c v)), (15, .v (.c (.il .i64 zs.length)))] 49 16 zs.length
    (fun i t st m1 => m1 = m ∧ st = s ∧ t.get 7 = some (.v (.c (.il .i64 (zs.take i).sum))) ∧ ∀ z ∈ zs.take i, 1 ≤ z ∧ z ≤ 1440)
    (by simp) (by simp only [List.forall_mem_cons]; exact ⟨rfl, rfl, rfl, rfl, rfl, rfl, fun _ h => by cases h⟩) (by simp only [Tr.all_set_iff]; exact TL.start_all _ _ (by simp)) rfl (by omega) ⟨rfl, rfl, rfl, fun _ h => by cases h⟩ ?_
  rintro i t st m1 hi hfac hm hta hcn ⟨rfl, rfl, h7, hall⟩
  simp only [List.forall_mem_cons] at hfac
  obtain ⟨k0, k1, k4, k5, k14, k15, -⟩ := hfac
  have hsum := sum_min hall
  have hleni : (zs.take i).length = i := by rw [List.length_take]; omega
  rw [hleni] at hsum
  by_cases hlt : i < zs.length
  · obtain ⟨b, off, -, hidx, hload⟩ := Ints.at2 hv u24 z3 r3 (by omega)
    have d2 : decide ((i : Int) < (zs.length : Int)) = true := by simpa using hlt
    have hx := hidx .i64 i hlt
    have hy := hload i hlt
    have htk : zs.take (i + 1) = zs.take i ++ [zs[i]] := List.take_succ_eq_append_getElem hlt
    have hinc : IntKind.i64.wrap ((i : Int) + 1) = ((i + 1 : Nat) : Int) := by rw [wrap64 (by omega) (by omega)]; rfl
    by_cases hz : 1 ≤ zs[i] ∧ zs[i] ≤ 1440
    · have d3 : (decide ((1 : Int) ≤ zs[i]) && decide (zs[i] ≤ 1440)) = true := by simp [hz.1, hz.2]
      have hadd : IntKind.i64.wrap ((zs.take i).sum + zs[i]) = (zs.take (i + 1)).sum := by rw [wrap64 (by omega) (by omega), htk, List.sum_append]; simp
      simp only [code_seq, seqK_normal, seqK_exit, seqK_ret, regK_leaf, code_region, code_cond, condK_true, condK_false, code_block, blkK_normal, blkK_ret, blkK_exit, code_skip, code_exit, code_ret, code_label, code_scope, bodyK_normal, bodyK_ret, retK_pair, aOpsY, aStepY, yldOf, isDefer, aStep, stepGen, stepCall, stepStore, guardOf, aOpV, opMove, opBin, opUn, opPick, opLoad, opIndexAddr, opExtract, opCall, opConv, atIx, lc, lf, lfb, lo, evalA, evalC, evalO, evalAs, evalCs, ofValue, ofCell, Option.map_some, Option.map_none, putT, aCallee, aUn, bLit, aExtract, Tr.get_set_if, TL.start_get, List.length_cons, List.length_nil, List.getElem?_cons_succ, List.getElem?_cons_zero, List.getElem?_nil, List.map_nil, List.map_cons, List.append_nil, List.nil_append, List.cons_append, bind_leaf, aBin, numOf, isShift, cmp_leq, cmp_lss, cmp_gtr, cmp_geq, cmp_eql, cmp_neq, arith_add, arith_sub, arith_mul, isLit, aArith, aPick, Option.elim_some, Option.elim_none, opsNo, Nat.reduceAdd, Nat.reduceSub, Nat.reduceLeDiff, Nat.reduceLT, Nat.reduceEqDiff, reduceIte, Bool.false_eq_true, Bool.true_eq_false, Bool.not_true, Bool.not_false, List.getElem?_toArray, Option.bind_some, Option.bind_none, endBody, aResults, aResL, aRes1, isV_c, isV_agg, isV_nil, isV_cons, isA_c, isA_agg, isC_il, isC_bl, isC_sl, isC_nsl, isC_sg, isC_sc, isC_pt, isC_npt, isC_fc, List.all_cons, List.all_nil, Bool.false_and, Bool.true_and, Bool.and_true, Bool.and_false, Bool.true_or, Bool.false_or, decide_true, decide_false, eq_self_iff_true, call_def, yld_def, opBuildSlice, evalPs, oneWord, runPl, takeG, aTake, isPure, flushL, List.isEmpty_nil, Bool.true_or, Bool.or_true, isAsk, keyG, keyK, nb_new, vc_leaf_eq, k0, k14, k15, h7, hcn, hm, d2, d3, hx, hy, hinc, hadd, b64, hb, vc_leaf_eq]
      refine ⟨hlt, ?_, trivial, trivial, trivial, trivial, trivial, ?_⟩
      · repeat (refine Sets.set ?_ _ (by decide) _)
        exact .refl
      · rw [htk]
        intro z hz'
        rcases List.mem_append.1 hz' with h | h
        · exact hall z h
        · have : z = zs[i] := by simpa using h
          rw [this]; exact hz
    · have d3 : (decide ((1 : Int) ≤ zs[i]) && decide (zs[i] ≤ 1440)) = false := by
        by_cases h : 1 ≤ zs[i] <;> simp [h]; omega
      have hF : whichF zs minute = (0, 0, 1) := by
        unfold whichF
        rw [if_neg hc, if_pos]
        rw [List.all_eq_false]
        exact ⟨zs[i], List.getElem_mem hlt, by simp only [minB, d3]; decide⟩
      simp only [code_seq, seqK_normal, seqK_exit, seqK_ret, regK_leaf, code_region, code_cond, condK_true, condK_false, code_block, blkK_normal, blkK_ret, blkK_exit, code_skip, code_exit, code_ret, code_label, code_scope, bodyK_normal, bodyK_ret, retK_pair, aOpsY, aStepY, yldOf, isDefer, aStep, stepGen, stepCall, stepStore, guardOf, aOpV, opMove, opBin, opUn, opPick, opLoad, opIndexAddr, opExtract, opCall, opConv, atIx, lc, lf, lfb, lo, evalA, evalC, evalO, evalAs, evalCs, ofValue, ofCell, Option.map_some, Option.map_none, putT, aCallee, aUn, bLit, aExtract, Tr.get_set_if, TL.start_get, List.length_cons, List.length_nil, List.getElem?_cons_succ, List.getElem?_cons_zero, List.getElem?_nil, List.map_nil, List.map_cons, List.append_nil, List.nil_append, List.cons_append, bind_leaf, aBin, numOf, isShift, cmp_leq, cmp_lss, cmp_gtr, cmp_geq, cmp_eql, cmp_neq, arith_add, arith_sub, arith_mul, isLit, aArith, aPick, Option.elim_some, Option.elim_none, opsNo, Nat.reduceAdd, Nat.reduceSub, Nat.reduceLeDiff, Nat.reduceLT, Nat.reduceEqDiff, reduceIte, Bool.false_eq_true, Bool.true_eq_false, Bool.not_true, Bool.not_false, List.getElem?_toArray, Option.bind_some, Option.bind_none, endBody, aResults, aResL, aRes1, isV_c, isV_agg, isV_nil, isV_cons, isA_c, isA_agg, isC_il, isC_bl, isC_sl, isC_nsl, isC_sg, isC_sc, isC_pt, isC_npt, isC_fc, List.all_cons, List.all_nil, Bool.false_and, Bool.true_and, Bool.and_true, Bool.and_false, Bool.true_or, Bool.false_or, decide_true, decide_false, eq_self_iff_true, call_def, yld_def, opBuildSlice, evalPs, oneWord, runPl, takeG, aTake, isPure, flushL, List.isEmpty_nil, Bool.true_or, Bool.or_true, isAsk, keyG, keyK, nb_new, vc_leaf_eq, k0, k14, k15, h7, hcn, hm, d2, d3, hx, hy, hinc, b64, hb, vc_leaf_eq, hw, hF]
      exact ⟨trivial, trivial⟩
  have d2 : decide ((i : Int) < (zs.length : Int)) = false := by simpa using hlt
  have ei : i = zs.length := by omega
  subst ei
  rw [List.take_length] at h7 hall hsum
  have hall' : ¬ zs.all minB = false := by
    have : zs.all minB = true := by
      rw [List.all_eq_true]; intro z hz; obtain ⟨a, b⟩ := hall z hz; simp [minB, a, b]
    rw [this]; decide
  by_cases hmin : minute < 0 ∨ 1099511627776 < minute
  · have d3 : (decide ((0 : Int) ≤ minute) && decide (minute ≤ 1099511627776)) = false := by
      rcases hmin with h | h
      · simp; omega
      · simp; omega
    have hF : whichF zs minute = (0, 0, 1) := by
      unfold whichF
      rw [if_neg hc, if_neg hall', if_pos hmin]
    simp only [code_seq, seqK_normal, seqK_exit, seqK_ret, regK_leaf, code_region, code_cond, condK_true, condK_false, code_block, blkK_normal, blkK_ret, blkK_exit, code_skip, code_exit, code_ret, code_label, code_scope, bodyK_normal, bodyK_ret, retK_pair, aOpsY, aStepY, yldOf, isDefer, aStep, stepGen, stepCall, stepStore, guardOf, aOpV, opMove, opBin, opUn, opPick, opLoad, opIndexAddr, opExtract, opCall, opConv, atIx, lc, lf, lfb, lo, evalA, evalC, evalO, evalAs, evalCs, ofValue, ofCell, Option.map_some, Option.map_none, putT, aCallee, aUn, bLit, aExtract, Tr.get_set_if, TL.start_get, List.length_cons, List.length_nil, List.getElem?_cons_succ, List.getElem?_cons_zero, List.getElem?_nil, List.map_nil, List.map_cons, List.append_nil, List.nil_append, List.cons_append, bind_leaf, aBin, numOf, isShift, cmp_leq, cmp_lss, cmp_gtr, cmp_geq, cmp_eql, cmp_neq, arith_add, arith_sub, arith_mul, isLit, aArith, aPick, Option.elim_some, Option.elim_none, opsNo, Nat.reduceAdd, Nat.reduceSub, Nat.reduceLeDiff, Nat.reduceLT, Nat.reduceEqDiff, reduceIte, Bool.false_eq_true, Bool.true_eq_false, Bool.not_true, Bool.not_false, List.getElem?_toArray, Option.bind_some, Option.bind_none, endBody, aResults, aResL, aRes1, isV_c, isV_agg, isV_nil, isV_cons, isA_c, isA_agg, isC_il, isC_bl, isC_sl, isC_nsl, isC_sg, isC_sc, isC_pt, isC_npt, isC_fc, List.all_cons, List.all_nil, Bool.false_and, Bool.true_and, Bool.and_true, Bool.and_false, Bool.true_or, Bool.false_or, decide_true, decide_false, eq_self_iff_true, call_def, yld_def, opBuildSlice, evalPs, oneWord, runPl, takeG, aTake, isPure, flushL, List.isEmpty_nil, Bool.true_or, Bool.or_true, isAsk, keyG, keyK, nb_new, vc_leaf_eq, k0, k1, k14, k15, h7, hcn, hm, d2, d3, b64, hb, vc_leaf_eq, hw, hF]
    exact ⟨trivial, trivial⟩
  have d3 : (decide ((0 : Int) ≤ minute) && decide (minute ≤ 1099511627776)) = true := by simp; omega
  have hne : zs.sum ≠ 0 := by omega
  have hF : whichF zs minute = ((((spot zs (minute.tmod zs.sum)).1 : Nat) : Int), (spot zs (minute.tmod zs.sum)).2, 0) := by
    unfold whichF
    rw [if_neg hc, if_neg hall', if_neg hmin]
  have hr0 : 0 ≤ minute.tmod zs.sum := Int.tmod_nonneg _ (by omega)
  have hr1 : minute.tmod zs.sum < zs.sum := Int.tmod_lt_of_pos _ (by omega)
  rw [hF]
  simp only [code_seq, seqK_normal, seqK_exit, seqK_ret, regK_leaf, code_region, code_cond, condK_true, condK_false, code_block, blkK_normal, blkK_ret, blkK_exit, code_skip, code_exit, code_ret, code_label, code_scope, bodyK_normal, bodyK_ret, retK_pair, aOpsY, aStepY, yldOf, isDefer, aStep, stepGen, stepCall, stepStore, guardOf, aOpV, opMove, opBin, opUn, opPick, opLoad, opIndexAddr, opExtract, opCall, opConv, atIx, lc, lf, lfb, lo, evalA, evalC, evalO, evalAs, evalCs, ofValue, ofCell, Option.map_some, Option.map_none, putT, aCallee, aUn, bLit, aExtract, Tr.get_set_if, TL.start_get, List.length_cons, List.length_nil, List.getElem?_cons_succ, List.getElem?_cons_zero, List.getElem?_nil, List.map_nil, List.map_cons, List.append_nil, List.nil_append, List.cons_append, bind_leaf, aBin, numOf, isShift, cmp_leq, cmp_lss, cmp_gtr, cmp_geq, cmp_eql, cmp_neq, arith_add, arith_sub, arith_mul, isLit, aArith, aPick, Option.elim_some, Option.elim_none, opsNo, Nat.reduceAdd, Nat.reduceSub, Nat.reduceLeDiff, Nat.reduceLT, Nat.reduceEqDiff, reduceIte, Bool.false_eq_true, Bool.true_eq_false, Bool.not_true, Bool.not_false, List.getElem?_toArray, Option.bind_some, Option.bind_none, endBody, aResults, aResL, aRes1, isV_c, isV_agg, isV_nil, isV_cons, isA_c, isA_agg, isC_il, isC_bl, isC_sl, isC_nsl, isC_sg, isC_sc, isC_pt, isC_npt, isC_fc, List.all_cons, List.all_nil, Bool.false_and, Bool.true_and, Bool.and_true, Bool.and_false, Bool.true_or, Bool.false_or, decide_true, decide_false, eq_self_iff_true, call_def, yld_def, opBuildSlice, evalPs, oneWord, runPl, takeG, aTake, isPure, flushL, List.isEmpty_nil, Bool.true_or, Bool.or_true, isAsk, keyG, keyK, nb_new, vc_leaf_eq, k0, k1, k14, k15, h7, hcn, hm, d2, d3, b64, hb, hne, vc_leaf_eq, Tree.vc_bind]
  generalize minute.tmod zs.sum = r at hr0 hr1
  rw [code_loop]
  refine vc_for [4, 5, 33, 34, 35, 36, 37, 38, 39, 40, 41, 42, 43, 44, 45, 46] [(0, .v (.c v))] 49
    (fun k t st' m2 => m2 = m1 ∧ st' = st ∧ ∃ c q, k = zs.length - c ∧ c < zs.length ∧ t.get 4 = some (.v (.c (.il .i64 (c : Nat)))) ∧ t.get 5 = some (.v (.c (.il .i64 q))) ∧ 0 ≤ q ∧ q < (zs.drop c).sum ∧ spot zs r = (c + (spot (zs.drop c) q).1, (spot (zs.drop c) q).2))
    zs.length (by simp) (by simp only [List.forall_mem_cons]; exact ⟨by simp [Tr.get_set_if, k0], fun _ h => by cases h⟩) (by simp only [Tr.all_set_iff]; exact hta) (by omega)
    ⟨rfl, rfl, 0, r, rfl, by omega, by simp [Tr.get_set_if, k4], by simp [Tr.get_set_if, hm], hr0, by simpa using hr1, by simp⟩ ?_
  rintro k t st m2 hfac hm hta ⟨rfl, rfl, c, q, rfl, hcl, h4, h5, hq0, hq1, hsp⟩
  simp only [List.forall_mem_cons] at hfac
  obtain ⟨k0, -⟩ := hfac
  obtain ⟨b, off, -, hidx, hload⟩ := Ints.at2 hv u24 z3 r3 (by omega)
  have hx := hidx .i64 c hcl
  have hy := hload c hcl
  have hdr : zs.drop c = zs[c] :: zs.drop (c + 1) := List.drop_eq_getElem_cons hcl
  obtain ⟨hz1, hz2⟩ := hall zs[c] (List.getElem_mem hcl)
  have hsd : (zs.drop c).sum ≤ zs.sum := by
    have := List.take_append_drop c zs
    have h2 := sum_min (zs := zs.take c) (fun z hz => hall z (List.mem_of_mem_take hz))
    rw [← this, List.sum_append]
    simp only [List.take_append_drop]
    omega
  by_cases hge : zs[c] ≤ q
  · have d4 : decide (zs[c] ≤ q) = true := by simpa using hge
    have hsub : IntKind.i64.wrap (q - zs[c]) = q - zs[c] := wrap64 (by omega) (by omega)
    have hinc : IntKind.i64.wrap ((c : Int) + 1) = ((c + 1 : Nat) : Int) := by rw [wrap64 (by omega) (by omega)]; rfl
    have hsum1 : q - zs[c] < (zs.drop (c + 1)).sum := by
      rw [hdr, List.sum_cons] at hq1; omega
    have hlt : c + 1 < zs.length := by
      apply Nat.lt_of_not_le; intro h
      rw [List.drop_of_length_le h] at hsum1
      simp at hsum1; omega
    simp only [code_seq, seqK_normal, seqK_exit, seqK_ret, regK_leaf, code_region, code_cond, condK_true, condK_false, code_block, blkK_normal, blkK_ret, blkK_exit, code_skip, code_exit, code_ret, code_label, code_scope, bodyK_normal, bodyK_ret, retK_pair, aOpsY, aStepY, yldOf, isDefer, aStep, stepGen, stepCall, stepStore, guardOf, aOpV, opMove, opBin, opUn, opPick, opLoad, opIndexAddr, opExtract, opCall, opConv, atIx, lc, lf, lfb, lo, evalA, evalC, evalO, evalAs, evalCs, ofValue, ofCell, Option.map_some, Option.map_none, putT, aCallee, aUn, bLit, aExtract, Tr.get_set_if, TL.start_get, List.length_cons, List.length_nil, List.getElem?_cons_succ, List.getElem?_cons_zero, List.getElem?_nil, List.map_nil, List.map_cons, List.append_nil, List.nil_append, List.cons_append, bind_leaf, aBin, numOf, isShift, cmp_leq, cmp_lss, cmp_gtr, cmp_geq, cmp_eql, cmp_neq, arith_add, arith_sub, arith_mul, isLit, aArith, aPick, Option.elim_some, Option.elim_none, opsNo, Nat.reduceAdd, Nat.reduceSub, Nat.reduceLeDiff, Nat.reduceLT, Nat.reduceEqDiff, reduceIte, Bool.false_eq_true, Bool.true_eq_false, Bool.not_true, Bool.not_false, List.getElem?_toArray, Option.bind_some, Option.bind_none, endBody, aResults, aResL, aRes1, isV_c, isV_agg, isV_nil, isV_cons, isA_c, isA_agg, isC_il, isC_bl, isC_sl, isC_nsl, isC_sg, isC_sc, isC_pt, isC_npt, isC_fc, List.all_cons, List.all_nil, Bool.false_and, Bool.true_and, Bool.and_true, Bool.and_false, Bool.true_or, Bool.false_or, decide_true, decide_false, eq_self_iff_true, call_def, yld_def, opBuildSlice, evalPs, oneWord, runPl, takeG, aTake, isPure, flushL, List.isEmpty_nil, Bool.true_or, Bool.or_true, isAsk, keyG, keyK, nb_new, vc_leaf_eq, k0, h4, h5, hm, d4, hx, hy, hsub, hinc, vc_leaf_eq]
    refine ⟨?_, trivial, zs.length - (c + 1), by omega, trivial, trivial, c + 1, q - zs[c], rfl, hlt, by simp [Tr.get_set_if, h4], by simp [Tr.get_set_if, h5], by omega, hsum1, ?_⟩
    · repeat (refine Sets.set ?_ _ (by decide) _)
      exact .refl
    · rw [hsp, hdr]
      simp only [spot, if_pos hge]
      congr 1; omega
  · have d4 : decide (zs[c] ≤ q) = false := by simpa using hge
    have e : spot (zs.drop c) q = (0, q) := by
      rw [hdr]; simp only [spot, if_neg hge]
    have hsp : spot zs r = (c, q) := by rw [hsp, e]; rfl
    simp only [code_seq, seqK_normal, seqK_exit, seqK_ret, regK_leaf, code_region, code_cond, condK_true, condK_false, code_block, blkK_normal, blkK_ret, blkK_exit, code_skip, code_exit, code_ret, code_label, code_scope, bodyK_normal, bodyK_ret, retK_pair, aOpsY, aStepY, yldOf, isDefer, aStep, stepGen, stepCall, stepStore, guardOf, aOpV, opMove, opBin, opUn, opPick, opLoad, opIndexAddr, opExtract, opCall, opConv, atIx, lc, lf, lfb, lo, evalA, evalC, evalO, evalAs, evalCs, ofValue, ofCell, Option.map_some, Option.map_none, putT, aCallee, aUn, bLit, aExtract, Tr.get_set_if, TL.start_get, List.length_cons, List.length_nil, List.getElem?_cons_succ, List.getElem?_cons_zero, List.getElem?_nil, List.map_nil, List.map_cons, List.append_nil, List.nil_append, List.cons_append, bind_leaf, aBin, numOf, isShift, cmp_leq, cmp_lss, cmp_gtr, cmp_geq, cmp_eql, cmp_neq, arith_add, arith_sub, arith_mul, isLit, aArith, aPick, Option.elim_some, Option.elim_none, opsNo, Nat.reduceAdd, Nat.reduceSub, Nat.reduceLeDiff, Nat.reduceLT, Nat.reduceEqDiff, reduceIte, Bool.false_eq_true, Bool.true_eq_false, Bool.not_true, Bool.not_false, List.getElem?_toArray, Option.bind_some, Option.bind_none, endBody, aResults, aResL, aRes1, isV_c, isV_agg, isV_nil, isV_cons, isA_c, isA_agg, isC_il, isC_bl, isC_sl, isC_nsl, isC_sg, isC_sc, isC_pt, isC_npt, isC_fc, List.all_cons, List.all_nil, Bool.false_and, Bool.true_and, Bool.and_true, Bool.and_false, Bool.true_or, Bool.false_or, decide_true, decide_false, eq_self_iff_true, call_def, yld_def, opBuildSlice, evalPs, oneWord, runPl, takeG, aTake, isPure, flushL, List.isEmpty_nil, Bool.true_or, Bool.or_true, isAsk, keyG, keyK, nb_new, vc_leaf_eq, k0, h4, h5, hm, d4, hx, hy, vc_leaf_eq, hself, hsp]
    exact ⟨trivial, trivial⟩
end
end Go.Proofs.YtlncagdekfjinaaGreatDoor.bud

namespace Go.Proofs.YtlncagdekfjinaaGreatDoor.bud
open Go.RowKit Go.Proofs.VM
noncomputable section
set_option maxRecDepth 100000
set_option linter.unusedSimpArgs false
variable {txt : Rat → List UInt8} {m : M}
theorem spot_lt {z r : Int} {zs : List Int} (h : r < z) : spot (z :: zs) r = (0, r) := by
  show (if z ≤ r then _ else _) = _
  rw [if_neg (by omega)]
theorem spot_ge {z r : Int} {zs : List Int} (h : z ≤ r) : spot (z :: zs) r = ((spot zs (r - z)).1 + 1, (spot zs (r - z)).2) := by
  show (if z ≤ r then _ else _) = _
  rw [if_pos h]
theorem spot_at : ∀ {ms : List Int} (i : Nat) (j : Int) (hi : i < ms.length), (∀ z ∈ ms, 1 ≤ z ∧ z ≤ 1440) → 0 ≤ j → j < ms[i] → spot ms ((ms.take i).sum + j) = (i, j)
  | [], i, j, hi, _, _, _ => by simp at hi
  | z :: ms, 0, j, hi, _, h0, h1 => by
    have h1 : j < z := h1
    rw [List.take_zero, List.sum_nil, Int.zero_add, spot_lt h1]
  | z :: ms, i + 1, j, hi, h, h0, h1 => by
    have hi' : i < ms.length := by simpa using hi
    have ih := spot_at (ms := ms) i j hi' (fun x hx => h x (by simp [hx])) h0 h1
    have hp := sum_min (zs := ms.take i) fun x hx => h x (List.mem_cons_of_mem _ (List.mem_of_mem_take hx))
    rw [List.take_succ_cons, List.sum_cons, spot_ge (by omega), show z + (ms.take i).sum + j - z = (ms.take i).sum + j by omega, ih]
theorem take_sum_lt {ms : List Int} (h : ∀ z ∈ ms, 1 ≤ z ∧ z ≤ 1440) {i : Nat} (hi : i < ms.length) : 0 ≤ (ms.take i).sum ∧ (ms.take i).sum + ms[i] ≤ ms.sum := by
  have h1 := sum_min (zs := ms.take i) fun x hx => h x (List.mem_of_mem_take hx)
  have h2 := sum_min (zs := ms.drop (i + 1)) fun x hx => h x (List.mem_of_mem_drop hx)
  have h3 : ms.sum = (ms.take i).sum + (ms[i] + (ms.drop (i + 1)).sum) := by
    rw [← List.sum_cons, ← List.drop_eq_getElem_cons hi, ← List.sum_append, List.take_append_drop]
  omega
theorem which_at {ms : List Int} (h : ∀ z ∈ ms, 1 ≤ z ∧ z ≤ 1440) (h1 : 1 ≤ ms.length) (h8 : ms.length ≤ 8) {r : Int} {i : Nat} {j : Int} (hi : i < ms.length) (hj0 : 0 ≤ j) (hj : j < ms[i]) (hr : 0 ≤ r) {x : Int} (hx : x = r * ms.sum + ((ms.take i).sum + j)) (hm : x ≤ 1099511627776) :
    whichF ms x = ((i : Int), j, 0) := by
  have hall : ¬ ms.all minB = false := by
    have : ms.all minB = true := by
      rw [List.all_eq_true]; intro z hz; obtain ⟨a, b⟩ := h z hz; simp [minB, a, b]
    rw [this]; decide
  obtain ⟨t1, t2⟩ := take_sum_lt h hi
  have hs := sum_min h
  have hp : 0 ≤ r * ms.sum := Int.mul_nonneg hr (by omega)
  unfold whichF
  rw [if_neg (by omega), if_neg hall, if_neg (by omega), hx]
  have e : (r * ms.sum + ((ms.take i).sum + j)).tmod ms.sum = (ms.take i).sum + j := by
    rw [Int.tmod_eq_emod_of_nonneg (by omega), Int.add_comm, Int.add_mul_emod_self_right, Int.emod_eq_of_lt (by omega) (by omega)]
  rw [e, spot_at i j hi h hj0 hj]
theorem u31 : Tryz.prog.underlying 31 = some (.slice 5) := by kernel_rfl
theorem z5 : sizeT Tryz.prog 5 = some 1 := by kernel_rfl
theorem r5 : rowT Tryz.prog 5 = some false := by kernel_rfl
theorem b16 : bodied Tryz.prog 16 = true := by kernel_rfl
theorem convU8 (s : St) (z : Int) : aConv Tryz.prog s 5 3 (.il .u8 z) = .leaf (.v (.c (.il .i64 (IntKind.i64.wrap z))), s) := by
  have h1 : Tryz.prog.underlying 5 = some (.int .u8) := by kernel_rfl
  have h2 : Tryz.prog.underlying 3 = some (.int .i64) := by kernel_rfl
  simp [aConv, h1, h2]
theorem convU16 (s : St) (z : Int) : aConv Tryz.prog s 25 3 (.il .u16 z) = .leaf (.v (.c (.il .i64 (IntKind.i64.wrap z))), s) := by
  have h1 : Tryz.prog.underlying 25 = some (.int .u16) := by kernel_rfl
  have h2 : Tryz.prog.underlying 3 = some (.int .i64) := by kernel_rfl
  simp [aConv, h1, h2]
set_option maxHeartbeats 4000000 in
theorem turns_ok (N n : Nat) (v : CV) (zs : List Int) (r : Int) (s : St) (hw : Wf s) (hv : Ints s v .u8 zs) (hN : 200 < N) (hz : ∀ z ∈ zs, 0 ≤ z ∧ z ≤ 255) (hr0 : 0 ≤ r) (hr1 : r ≤ 65535) :
    (call N (n+6) 4 [.c v, .c (.il .u16 r)] s).vc txt m fun r _ => r.1 = .v (.c (.bl true)) := by
  have hlen := Vw.blen hv u31
  have wf := hw
  have hself := hw.self
  rw [call_body _ _ _ _ _ rfl Tryz.func4 rfl]
  simp only [Tryz.f4]
  have haw := fun s => awake_eq N (n+4) s
  by_cases hb : zs.length < 1 ∨ 5 < zs.length
  · by_cases h1 : zs.length < 1
    · have d1 : decide ((zs.length : Int) < 1) = true := by simp; omega
      simp only [code_seq, seqK_normal, seqK_exit, seqK_ret, regK_leaf, code_region, code_cond, condK_true, condK_false, code_block, blkK_normal, blkK_ret, blkK_exit, code_skip, code_exit, code_ret, code_label, code_scope, bodyK_normal, bodyK_ret, retK_pair, aOpsY, aStepY, yldOf, isDefer, aStep, stepGen, stepCall, stepStore, guardOf, aOpV, opMove, opBin, opUn, opPick, opLoad, opIndexAddr, opExtract, opCall, opConv, atIx, lc, lf, lfb, lo, evalA, evalC, evalO, evalAs, evalCs, ofValue, ofCell, Option.map_some, Option.map_none, putT, aCallee, aUn, bLit, aExtract, Tr.get_set_if, TL.start_get, List.length_cons, List.length_nil, List.getElem?_cons_succ, List.getElem?_cons_zero, List.getElem?_nil, List.map_nil, List.map_cons, List.append_nil, List.nil_append, List.cons_append, bind_leaf, aBin, numOf, isShift, cmp_leq, cmp_lss, cmp_gtr, cmp_geq, cmp_eql, cmp_neq, arith_add, arith_sub, arith_mul, isLit, aArith, aPick, Option.elim_some, Option.elim_none, opsNo, Nat.reduceAdd, Nat.reduceSub, Nat.reduceLeDiff, Nat.reduceLT, Nat.reduceEqDiff, reduceIte, Bool.false_eq_true, Bool.true_eq_false, Bool.not_true, Bool.not_false, List.getElem?_toArray, Option.bind_some, Option.bind_none, endBody, aResults, aResL, aRes1, isV_c, isV_agg, isV_nil, isV_cons, isA_c, isA_agg, isC_il, isC_bl, isC_sl, isC_nsl, isC_sg, isC_sc, isC_pt, isC_npt, isC_fc, List.all_cons, List.all_nil, Bool.false_and, Bool.true_and, Bool.and_true, Bool.and_false, Bool.true_or, Bool.false_or, decide_true, decide_false, eq_self_iff_true, call_def, yld_def, opBuildSlice, evalPs, oneWord, runPl, takeG, aTake, isPure, flushL, List.isEmpty_nil, Bool.true_or, Bool.or_true, isAsk, keyG, keyK, nb_new, vc_leaf_eq, hlen, d1, b13, haw]
    · have d1 : decide ((zs.length : Int) < 1) = false := by simp; omega
      have d2 : decide ((5 : Int) < (zs.length : Int)) = true := by simp; omega
      simp only [code_seq, seqK_normal, seqK_exit, seqK_ret, regK_leaf, code_region, code_cond, condK_true, condK_false, code_block, blkK_normal, blkK_ret, blkK_exit, code_skip, code_exit, code_ret, code_label, code_scope, bodyK_normal, bodyK_ret, retK_pair, aOpsY, aStepY, yldOf, isDefer, aStep, stepGen, stepCall, stepStore, guardOf, aOpV, opMove, opBin, opUn, opPick, opLoad, opIndexAddr, opExtract, opCall, opConv, atIx, lc, lf, lfb, lo, evalA, evalC, evalO, evalAs, evalCs, ofValue, ofCell, Option.map_some, Option.map_none, putT, aCallee, aUn, bLit, aExtract, Tr.get_set_if, TL.start_get, List.length_cons, List.length_nil, List.getElem?_cons_succ, List.getElem?_cons_zero, List.getElem?_nil, List.map_nil, List.map_cons, List.append_nil, List.nil_append, List.cons_append, bind_leaf, aBin, numOf, isShift, cmp_leq, cmp_lss, cmp_gtr, cmp_geq, cmp_eql, cmp_neq, arith_add, arith_sub, arith_mul, isLit, aArith, aPick, Option.elim_some, Option.elim_none, opsNo, Nat.reduceAdd, Nat.reduceSub, Nat.reduceLeDiff, Nat.reduceLT, Nat.reduceEqDiff, reduceIte, Bool.false_eq_true, Bool.true_eq_false, Bool.not_true, Bool.not_false, List.getElem?_toArray, Option.bind_some, Option.bind_none, endBody, aResults, aResL, aRes1, isV_c, isV_agg, isV_nil, isV_cons, isA_c, isA_agg, isC_il, isC_bl, isC_sl, isC_nsl, isC_sg, isC_sc, isC_pt, isC_npt, isC_fc, List.all_cons, List.all_nil, Bool.false_and, Bool.true_and, Bool.and_true, Bool.and_false, Bool.true_or, Bool.false_or, decide_true, decide_false, eq_self_iff_true, call_def, yld_def, opBuildSlice, evalPs, oneWord, runPl, takeG, aTake, isPure, flushL, List.isEmpty_nil, Bool.true_or, Bool.or_true, isAsk, keyG, keyK, nb_new, vc_leaf_eq, hlen, d1, d2, b13, haw]
  have d1 : decide ((zs.length : Int) < 1) = false := by simp; omega
  have d2 : decide ((5 : Int) < (zs.length : Int)) = false := by simp; omega
  obtain ⟨ms, hml, hmz⟩ : ∃ ms : List Int, ms.length = zs.length ∧ ∀ i (h : i < zs.length) (h' : i < ms.length), ms[i] = 1 + zs[i].tmod 30 := ⟨zs.map fun z => 1 + z.tmod 30, by simp, fun i h h' => by simp⟩
  have hmb : ∀ z ∈ ms, 1 ≤ z ∧ z ≤ 30 := fun z hz' => by
    obtain ⟨i, hi, e⟩ := List.mem_iff_getElem.1 hz'
    have h1 := hmz i (by omega) hi
    obtain ⟨q1, q2⟩ := hz zs[i] (List.getElem_mem (by omega))
    have := Int.tmod_nonneg (30 : Int) q1
    have := Int.tmod_lt_of_pos zs[i] (b := 30) (by omega)
    omega
  have h30 : ((30 : Int) = 0) = False := by simp
  simp only [code_seq, seqK_normal, seqK_exit, seqK_ret, regK_leaf, code_region, code_cond, condK_true, condK_false, code_block, blkK_normal, blkK_ret, blkK_exit, code_skip, code_exit, code_ret, code_label, code_scope, bodyK_normal, bodyK_ret, retK_pair, aOpsY, aStepY, yldOf, isDefer, aStep, stepGen, stepCall, stepStore, guardOf, aOpV, opMove, opBin, opUn, opPick, opLoad, opIndexAddr, opExtract, opCall, opConv, atIx, lc, lf, lfb, lo, evalA, evalC, evalO, evalAs, evalCs, ofValue, ofCell, Option.map_some, Option.map_none, putT, aCallee, aUn, bLit, aExtract, Tr.get_set_if, TL.start_get, List.length_cons, List.length_nil, List.getElem?_cons_succ, List.getElem?_cons_zero, List.getElem?_nil, List.map_nil, List.map_cons, List.append_nil, List.nil_append, List.cons_append, bind_leaf, aBin, numOf, isShift, cmp_leq, cmp_lss, cmp_gtr, cmp_geq, cmp_eql, cmp_neq, arith_add, arith_sub, arith_mul, isLit, aArith, aPick, Option.elim_some, Option.elim_none, opsNo, Nat.reduceAdd, Nat.reduceSub, Nat.reduceLeDiff, Nat.reduceLT, Nat.reduceEqDiff, reduceIte, Bool.false_eq_true, Bool.true_eq_false, Bool.not_true, Bool.not_false, List.getElem?_toArray, Option.bind_some, Option.bind_none, endBody, aResults, aResL, aRes1, isV_c, isV_agg, isV_nil, isV_cons, isA_c, isA_agg, isC_il, isC_bl, isC_sl, isC_nsl, isC_sg, isC_sc, isC_pt, isC_npt, isC_fc, List.all_cons, List.all_nil, Bool.false_and, Bool.true_and, Bool.and_true, Bool.and_false, Bool.true_or, Bool.false_or, decide_true, decide_false, eq_self_iff_true, call_def, yld_def, opBuildSlice, evalPs, oneWord, runPl, takeG, aTake, isPure, flushL, List.isEmpty_nil, Bool.true_or, Bool.or_true, isAsk, keyG, keyK, nb_new, vc_leaf_eq, hlen, d1, d2, b13, haw, Tree.vc_bind]
  rw [code_loop]
  refine vc_range [5, 7, 30, 31, 32, 33, 34, 35, 36, 37, 38, 39, 40, 41] [(0, .v (.c v)), (1, .v (.c (.il .u16 r))), (28, .v (.c v)), (29, .v (.c (.il .i64 zs.length)))] 106 30 zs.length
    (fun i t st m1 => m1 = m ∧ ∃ v1, t.get 5 = some (.v (.c v1)) ∧ VM.Own st v1 3 1 i (ints .i64 (ms.take i)) ∧ New s v1 ∧ Keep [] s st)
    (by simp) (by simp only [List.forall_mem_cons]; exact ⟨rfl, rfl, rfl, rfl, fun _ h => by cases h⟩) (by simp only [Tr.all_set_iff]; exact TL.start_all _ _ (by simp)) rfl (by omega) ⟨rfl, .nsl, rfl, VM.Own.nil _ _ _, (fun b h => nomatch h), Keep.refl wf⟩ ?_
  rintro i t st m1 hi hfac hm hta hc ⟨rfl, v1, h5, o1, hn1, hk⟩
  simp only [List.forall_mem_cons] at hfac
  obtain ⟨k0, k1, k28, k29, -⟩ := hfac
  by_cases hlt : i < zs.length
  · obtain ⟨b, off, -, hidx, hload⟩ := Ints.at2 (hv.keep hk (fun _ _ h => nomatch h)) u31 z5 r5 (by omega)
    have d1 : decide ((i : Int) < (zs.length : Int)) = true := by simpa using hlt
    have hx := hidx .i64 i hlt
    have hy := hload i hlt
    obtain ⟨q1, q2⟩ := hz zs[i] (List.getElem_mem hlt)
    have q3 := Int.tmod_nonneg (30 : Int) q1
    have q4 := Int.tmod_lt_of_pos zs[i] (b := 30) (by omega)
    have hcv := convU8 st (zs[i].tmod 30)
    rw [wrap64 (by omega) (by omega)] at hcv
    have hadd : IntKind.i64.wrap (1 + zs[i].tmod 30) = 1 + zs[i].tmod 30 := wrap64 (by omega) (by omega)
    have hinc : IntKind.i64.wrap ((i : Int) + 1) = ((i + 1 : Nat) : Int) := by rw [wrap64 (by omega) (by omega)]; rfl
    obtain ⟨s2, a1, a2, a3, a4⟩ := o1.push (news := [.il .i64 (1 + zs[i].tmod 30)]) hk.wf ty24 (by omega) rfl rfl
    simp only [code_seq, seqK_normal, seqK_exit, seqK_ret, regK_leaf, code_region, code_cond, condK_true, condK_false, code_block, blkK_normal, blkK_ret, blkK_exit, code_skip, code_exit, code_ret, code_label, code_scope, bodyK_normal, bodyK_ret, retK_pair, aOpsY, aStepY, yldOf, isDefer, aStep, stepGen, stepCall, stepStore, guardOf, aOpV, opMove, opBin, opUn, opPick, opLoad, opIndexAddr, opExtract, opCall, opConv, atIx, lc, lf, lfb, lo, evalA, evalC, evalO, evalAs, evalCs, ofValue, ofCell, Option.map_some, Option.map_none, putT, aCallee, aUn, bLit, aExtract, Tr.get_set_if, TL.start_get, List.length_cons, List.length_nil, List.getElem?_cons_succ, List.getElem?_cons_zero, List.getElem?_nil, List.map_nil, List.map_cons, List.append_nil, List.nil_append, List.cons_append, bind_leaf, aBin, numOf, isShift, cmp_leq, cmp_lss, cmp_gtr, cmp_geq, cmp_eql, cmp_neq, arith_add, arith_sub, arith_mul, isLit, aArith, aPick, Option.elim_some, Option.elim_none, opsNo, Nat.reduceAdd, Nat.reduceSub, Nat.reduceLeDiff, Nat.reduceLT, Nat.reduceEqDiff, reduceIte, Bool.false_eq_true, Bool.true_eq_false, Bool.not_true, Bool.not_false, List.getElem?_toArray, Option.bind_some, Option.bind_none, endBody, aResults, aResL, aRes1, isV_c, isV_agg, isV_nil, isV_cons, isA_c, isA_agg, isC_il, isC_bl, isC_sl, isC_nsl, isC_sg, isC_sc, isC_pt, isC_npt, isC_fc, List.all_cons, List.all_nil, Bool.false_and, Bool.true_and, Bool.and_true, Bool.and_false, Bool.true_or, Bool.false_or, decide_true, decide_false, eq_self_iff_true, call_def, yld_def, opBuildSlice, evalPs, oneWord, runPl, takeG, aTake, isPure, flushL, List.isEmpty_nil, Bool.true_or, Bool.or_true, isAsk, keyG, keyK, nb_new, vc_leaf_eq, hlen, k0, k28, k29, h5, hc, hm, d1, hx, hy, h30, hcv, hadd, hinc, a1, bs24]
    refine ⟨hlt, ?_, trivial, trivial, trivial, _, rfl, ?_, fun b hb => ?_, (hk.trans a3).less wf (fun x hx => .inr (hn1 x (by simpa using hx)))⟩
    · repeat (refine Sets.set ?_ _ (by decide) _)
      exact .refl
    · rw [ints_take _ _ _ (by omega), hmz i hlt]; exact a2
    · have := hk.nb; simp [bid] at hb; omega
  have d1 : decide ((i : Int) < (zs.length : Int)) = false := by simpa using hlt
  have hiz : i = ms.length := by omega
  subst hiz
  rw [List.take_length] at o1
  have hI : Ints st v1 .i64 ms := o1.vw
  have hsm := sum_min (zs := ms) fun z hz => by have := hmb z hz; omega
  have hs30 : ms.sum ≤ 150 := by
    have h : ∀ l : List Int, (∀ z ∈ l, 1 ≤ z ∧ z ≤ 30) → l.sum ≤ 30 * l.length := by
      intro l
      induction l with
      | nil => intro _; simp
      | cons z l ih =>
        intro h
        have := h z (by simp)
        have := ih fun z hz => h z (by simp [hz])
        simp only [List.sum_cons, List.length_cons]
        push_cast; omega
    have := h ms hmb
    omega
  have hws := hk.wf
  have hpr : 0 ≤ r * ms.sum := Int.mul_nonneg hr0 (by omega)
  have hpr2 : r * ms.sum ≤ 65535 * 150 := Int.le_trans (Int.mul_le_mul_of_nonneg_right hr1 (by omega)) (Int.mul_le_mul_of_nonneg_left hs30 (by omega))
  simp only [code_seq, seqK_normal, seqK_exit, seqK_ret, regK_leaf, code_region, code_cond, condK_true, condK_false, code_block, blkK_normal, blkK_ret, blkK_exit, code_skip, code_exit, code_ret, code_label, code_scope, bodyK_normal, bodyK_ret, retK_pair, aOpsY, aStepY, yldOf, isDefer, aStep, stepGen, stepCall, stepStore, guardOf, aOpV, opMove, opBin, opUn, opPick, opLoad, opIndexAddr, opExtract, opCall, opConv, atIx, lc, lf, lfb, lo, evalA, evalC, evalO, evalAs, evalCs, ofValue, ofCell, Option.map_some, Option.map_none, putT, aCallee, aUn, bLit, aExtract, Tr.get_set_if, TL.start_get, List.length_cons, List.length_nil, List.getElem?_cons_succ, List.getElem?_cons_zero, List.getElem?_nil, List.map_nil, List.map_cons, List.append_nil, List.nil_append, List.cons_append, bind_leaf, aBin, numOf, isShift, cmp_leq, cmp_lss, cmp_gtr, cmp_geq, cmp_eql, cmp_neq, arith_add, arith_sub, arith_mul, isLit, aArith, aPick, Option.elim_some, Option.elim_none, opsNo, Nat.reduceAdd, Nat.reduceSub, Nat.reduceLeDiff, Nat.reduceLT, Nat.reduceEqDiff, reduceIte, Bool.false_eq_true, Bool.true_eq_false, Bool.not_true, Bool.not_false, List.getElem?_toArray, Option.bind_some, Option.bind_none, endBody, aResults, aResL, aRes1, isV_c, isV_agg, isV_nil, isV_cons, isA_c, isA_agg, isC_il, isC_bl, isC_sl, isC_nsl, isC_sg, isC_sc, isC_pt, isC_npt, isC_fc, List.all_cons, List.all_nil, Bool.false_and, Bool.true_and, Bool.and_true, Bool.and_false, Bool.true_or, Bool.false_or, decide_true, decide_false, eq_self_iff_true, call_def, yld_def, opBuildSlice, evalPs, oneWord, runPl, takeG, aTake, isPure, flushL, List.isEmpty_nil, Bool.true_or, Bool.or_true, isAsk, keyG, keyK, nb_new, vc_leaf_eq, hlen, k0, k1, k28, k29, h5, hc, hm, d1, b15]
  simp only [Tree.vc_bind]
  refine Tree.vc_monoS ?_ (sum_ok N (n+4) v1 ms st hws hI (by omega) (by omega) (fun z hz' => by have := hmb z hz'; omega))
  rintro _ m2 ⟨rfl, rfl⟩
  have hlv := Vw.blen hI u24
  have hcv := convU16 st r
  rw [wrap64 (by omega) (by omega)] at hcv
  have hmul : IntKind.i64.wrap (r * ms.sum) = r * ms.sum := wrap64 (by omega) (by omega)
  simp only [code_seq, seqK_normal, seqK_exit, seqK_ret, regK_leaf, code_region, code_cond, condK_true, condK_false, code_block, blkK_normal, blkK_ret, blkK_exit, code_skip, code_exit, code_ret, code_label, code_scope, bodyK_normal, bodyK_ret, retK_pair, aOpsY, aStepY, yldOf, isDefer, aStep, stepGen, stepCall, stepStore, guardOf, aOpV, opMove, opBin, opUn, opPick, opLoad, opIndexAddr, opExtract, opCall, opConv, atIx, lc, lf, lfb, lo, evalA, evalC, evalO, evalAs, evalCs, ofValue, ofCell, Option.map_some, Option.map_none, putT, aCallee, aUn, bLit, aExtract, Tr.get_set_if, TL.start_get, List.length_cons, List.length_nil, List.getElem?_cons_succ, List.getElem?_cons_zero, List.getElem?_nil, List.map_nil, List.map_cons, List.append_nil, List.nil_append, List.cons_append, bind_leaf, aBin, numOf, isShift, cmp_leq, cmp_lss, cmp_gtr, cmp_geq, cmp_eql, cmp_neq, arith_add, arith_sub, arith_mul, isLit, aArith, aPick, Option.elim_some, Option.elim_none, opsNo, Nat.reduceAdd, Nat.reduceSub, Nat.reduceLeDiff, Nat.reduceLT, Nat.reduceEqDiff, reduceIte, Bool.false_eq_true, Bool.true_eq_false, Bool.not_true, Bool.not_false, List.getElem?_toArray, Option.bind_some, Option.bind_none, endBody, aResults, aResL, aRes1, isV_c, isV_agg, isV_nil, isV_cons, isA_c, isA_agg, isC_il, isC_bl, isC_sl, isC_nsl, isC_sg, isC_sc, isC_pt, isC_npt, isC_fc, List.all_cons, List.all_nil, Bool.false_and, Bool.true_and, Bool.and_true, Bool.and_false, Bool.true_or, Bool.false_or, decide_true, decide_false, eq_self_iff_true, call_def, yld_def, opBuildSlice, evalPs, oneWord, runPl, takeG, aTake, isPure, flushL, List.isEmpty_nil, Bool.true_or, Bool.or_true, isAsk, keyG, keyK, nb_new, vc_leaf_eq, hlen, k0, k1, k28, k29, h5, hc, hm, d1, b15, hlv, hcv, hmul, Tree.vc_bind]
  rw [code_loop]
  refine vc_range [9, 10, 11, 12, 13, 14, 15, 16, 17, 18, 50, 51, 52, 53, 54, 55, 56, 57, 58, 59, 60, 61, 62, 63, 64, 65, 66, 67, 68, 69, 70, 71, 72, 73, 74, 75, 76, 77, 78, 79, 80, 81, 82, 83, 84, 85, 86, 87, 88, 89, 90, 91, 92, 93, 94, 95, 96, 97, 98, 99, 100, 101, 102, 103, 104] [(5, .v (.c v1)), (8, .v (.c (.il .i64 ms.sum))), (48, .v (.c v1)), (49, .v (.c (.il .i64 ms.length)))] 106 50 ms.length
    (fun i t st3 m3 => m3 = m2 ∧ st3 = st ∧ t.get 9 = some (.v (.c (.il .i64 (r * ms.sum + (ms.take i).sum)))))
    (by simp) (by simp only [List.forall_mem_cons]; exact ⟨by simp [Tr.get_set_if, h5], by simp [Tr.get_set_if, hm], by simp [Tr.get_set_if, h5, hm], by simp [Tr.get_set_if, hm], fun _ h => by cases h⟩) (by simp only [Tr.all_set_iff]; exact hta) (by simp [Tr.get_set_if, hm]) (by omega) ⟨rfl, rfl, by simp [Tr.get_set_if, hm]⟩ ?_
  clear hc hm hta k0 k1 k28 k29 h5
  rintro i t st3 m3 hi hfac hm hta hc ⟨e1, e2, h9⟩
  subst e1
  subst e2
  simp only [List.forall_mem_cons] at hfac
  obtain ⟨k5, k8, k48, k49, -⟩ := hfac
  have haw := fun s => awake_eq N (n+4) s
  by_cases hlt : i < ms.length
  · obtain ⟨b, off, -, hidx, hload⟩ := Ints.at2 hI u24 z3 r3 (by omega)
    have d3 : decide ((i : Int) < (ms.length : Int)) = true := by simpa using hlt
    have hx := hidx .i64 i hlt
    have hy := hload i hlt
    obtain ⟨t1, t2⟩ := take_sum_lt (fun z hz => by have := hmb z hz; omega) hlt
    obtain ⟨q1, q2⟩ := hmb ms[i] (List.getElem_mem hlt)
    have htk : (ms.take (i + 1)).sum = (ms.take i).sum + ms[i] := by rw [List.take_succ_eq_append_getElem hlt, List.sum_append]; simp
    have hinc : IntKind.i64.wrap ((i : Int) + 1) = ((i + 1 : Nat) : Int) := by rw [wrap64 (by omega) (by omega)]; rfl
    simp only [code_seq, seqK_normal, seqK_exit, seqK_ret, regK_leaf, code_region, code_cond, condK_true, condK_false, code_block, blkK_normal, blkK_ret, blkK_exit, code_skip, code_exit, code_ret, code_label, code_scope, bodyK_normal, bodyK_ret, retK_pair, aOpsY, aStepY, yldOf, isDefer, aStep, stepGen, stepCall, stepStore, guardOf, aOpV, opMove, opBin, opUn, opPick, opLoad, opIndexAddr, opExtract, opCall, opConv, atIx, lc, lf, lfb, lo, evalA, evalC, evalO, evalAs, evalCs, ofValue, ofCell, Option.map_some, Option.map_none, putT, aCallee, aUn, bLit, aExtract, Tr.get_set_if, TL.start_get, List.length_cons, List.length_nil, List.getElem?_cons_succ, List.getElem?_cons_zero, List.getElem?_nil, List.map_nil, List.map_cons, List.append_nil, List.nil_append, List.cons_append, bind_leaf, aBin, numOf, isShift, cmp_leq, cmp_lss, cmp_gtr, cmp_geq, cmp_eql, cmp_neq, arith_add, arith_sub, arith_mul, isLit, aArith, aPick, Option.elim_some, Option.elim_none, opsNo, Nat.reduceAdd, Nat.reduceSub, Nat.reduceLeDiff, Nat.reduceLT, Nat.reduceEqDiff, reduceIte, Bool.false_eq_true, Bool.true_eq_false, Bool.not_true, Bool.not_false, List.getElem?_toArray, Option.bind_some, Option.bind_none, endBody, aResults, aResL, aRes1, isV_c, isV_agg, isV_nil, isV_cons, isA_c, isA_agg, isC_il, isC_bl, isC_sl, isC_nsl, isC_sg, isC_sc, isC_pt, isC_npt, isC_fc, List.all_cons, List.all_nil, Bool.false_and, Bool.true_and, Bool.and_true, Bool.and_false, Bool.true_or, Bool.false_or, decide_true, decide_false, eq_self_iff_true, call_def, yld_def, opBuildSlice, evalPs, oneWord, runPl, takeG, aTake, isPure, flushL, List.isEmpty_nil, Bool.true_or, Bool.or_true, isAsk, keyG, keyK, nb_new, vc_leaf_eq, k5, k8, k48, k49, h9, hc, hm, d3, hx, hy, Tree.vc_bind]
    rw [code_loop]
    obtain ⟨w, hw⟩ : ∃ w : Nat, ms[i] = (w : Int) := ⟨ms[i].toNat, by omega⟩
    rw [hw]
    refine vc_range [9, 12, 13, 14, 15, 16, 17, 18, 56, 57, 58, 59, 60, 61, 62, 63, 64, 65, 66, 67, 68, 69, 70, 71, 72, 73, 74, 75, 76, 77, 78, 79, 80, 81, 82, 83, 84, 85, 86, 87, 88, 89, 90, 91, 92, 93, 94, 95, 96, 97, 98, 99, 100, 101, 102, 103] [(5, .v (.c v1)), (8, .v (.c (.il .i64 ms.sum))), (10, .v (.c (.il .i64 (i : Nat)))), (50, .v (.c (.il .i64 (i : Nat)))), (55, .v (.c (.il .i64 (w : Nat))))] 106 56 w
      (fun j t' st4 m4 => m4 = m3 ∧ st4 = st3 ∧ t'.get 9 = some (.v (.c (.il .i64 (r * ms.sum + (ms.take i).sum + j)))) ∧ Sets [9, 10, 11, 12, 13, 14, 15, 16, 17, 18, 50, 51, 52, 53, 54, 55, 56, 57, 58, 59, 60, 61, 62, 63, 64, 65, 66, 67, 68, 69, 70, 71, 72, 73, 74, 75, 76, 77, 78, 79, 80, 81, 82, 83, 84, 85, 86, 87, 88, 89, 90, 91, 92, 93, 94, 95, 96, 97, 98, 99, 100, 101, 102, 103, 104] t t')
      (by simp) (by simp only [List.forall_mem_cons]; exact ⟨by simp [Tr.get_set_if, k5], by simp [Tr.get_set_if, k8], by simp [Tr.get_set_if, hm], by simp [Tr.get_set_if, hc], by simp [Tr.get_set_if, hm], fun _ h => by cases h⟩) (by simp only [Tr.all_set_iff]; exact hta) (by simp [Tr.get_set_if, hm]) (by omega) ⟨rfl, rfl, by simp [Tr.get_set_if, h9], ?_⟩ ?_
    · repeat (refine Sets.set ?_ _ (by decide) _)
      exact .refl
    rintro j t' st4 m4 hj hfac hm' hta' hc' ⟨e1, e2, h9', hS⟩
    subst e1
    subst e2
    simp only [List.forall_mem_cons] at hfac
    obtain ⟨k5', k8', k10', k50', k55', -⟩ := hfac
    by_cases hjw : j < w
    · have d4 : decide ((j : Int) < (w : Int)) = true := by simpa using hjw
      have hmw : ∀ z ∈ ms, 1 ≤ z ∧ z ≤ 1440 := fun z hz => by have := hmb z hz; omega
      have hW1 : whichF ms (r * ms.sum + (ms.take i).sum + j) = ((i : Int), (j : Int), 0) := which_at hmw (by omega) (by omega) hlt (by omega) (by omega) hr0 (by omega) (by omega)
      have hW2 : whichF ms (r * ms.sum + (ms.take i).sum + j + ms.sum) = ((i : Int), (j : Int), 0) := which_at (r := r + 1) hmw (by omega) (by omega) hlt (by omega) (by omega) (by omega) (by rw [Int.add_mul, Int.one_mul]; omega) (by omega)
      have hadd2 : IntKind.i64.wrap (r * ms.sum + (ms.take i).sum + j + ms.sum) = r * ms.sum + (ms.take i).sum + j + ms.sum := wrap64 (by omega) (by omega)
      have hinc9 : IntKind.i64.wrap (r * ms.sum + (ms.take i).sum + j + 1) = r * ms.sum + (ms.take i).sum + ((j + 1 : Nat) : Int) := by rw [wrap64 (by omega) (by omega)]; push_cast; omega
      have hinc' : IntKind.i64.wrap ((j : Int) + 1) = ((j + 1 : Nat) : Int) := by rw [wrap64 (by omega) (by omega)]; rfl
      simp only [code_seq, seqK_normal, seqK_exit, seqK_ret, regK_leaf, code_region, code_cond, condK_true, condK_false, code_block, blkK_normal, blkK_ret, blkK_exit, code_skip, code_exit, code_ret, code_label, code_scope, bodyK_normal, bodyK_ret, retK_pair, aOpsY, aStepY, yldOf, isDefer, aStep, stepGen, stepCall, stepStore, guardOf, aOpV, opMove, opBin, opUn, opPick, opLoad, opIndexAddr, opExtract, opCall, opConv, atIx, lc, lf, lfb, lo, evalA, evalC, evalO, evalAs, evalCs, ofValue, ofCell, Option.map_some, Option.map_none, putT, aCallee, aUn, bLit, aExtract, Tr.get_set_if, TL.start_get, List.length_cons, List.length_nil, List.getElem?_cons_succ, List.getElem?_cons_zero, List.getElem?_nil, List.map_nil, List.map_cons, List.append_nil, List.nil_append, List.cons_append, bind_leaf, aBin, numOf, isShift, cmp_leq, cmp_lss, cmp_gtr, cmp_geq, cmp_eql, cmp_neq, arith_add, arith_sub, arith_mul, isLit, aArith, aPick, Option.elim_some, Option.elim_none, opsNo, Nat.reduceAdd, Nat.reduceSub, Nat.reduceLeDiff, Nat.reduceLT, Nat.reduceEqDiff, reduceIte, Bool.false_eq_true, Bool.true_eq_false, Bool.not_true, Bool.not_false, List.getElem?_toArray, Option.bind_some, Option.bind_none, endBody, aResults, aResL, aRes1, isV_c, isV_agg, isV_nil, isV_cons, isA_c, isA_agg, isC_il, isC_bl, isC_sl, isC_nsl, isC_sg, isC_sc, isC_pt, isC_npt, isC_fc, List.all_cons, List.all_nil, Bool.false_and, Bool.true_and, Bool.and_true, Bool.and_false, Bool.true_or, Bool.false_or, decide_true, decide_false, eq_self_iff_true, call_def, yld_def, opBuildSlice, evalPs, oneWord, runPl, takeG, aTake, isPure, flushL, List.isEmpty_nil, Bool.true_or, Bool.or_true, isAsk, keyG, keyK, nb_new, vc_leaf_eq, k5', k8', k10', k50', k55', h9', hc', hm', d4, b16]
      simp only [Tree.vc_bind]
      refine Tree.vc_monoS ?_ (which_ok N (n+3) v1 ms (r * ms.sum + (ms.take i).sum + j) st4 hws hI (by omega) (by omega))
      rintro _ m5 ⟨rfl, rfl⟩
      rw [hW1]
      simp only [code_seq, seqK_normal, seqK_exit, seqK_ret, regK_leaf, code_region, code_cond, condK_true, condK_false, code_block, blkK_normal, blkK_ret, blkK_exit, code_skip, code_exit, code_ret, code_label, code_scope, bodyK_normal, bodyK_ret, retK_pair, aOpsY, aStepY, yldOf, isDefer, aStep, stepGen, stepCall, stepStore, guardOf, aOpV, opMove, opBin, opUn, opPick, opLoad, opIndexAddr, opExtract, opCall, opConv, atIx, lc, lf, lfb, lo, evalA, evalC, evalO, evalAs, evalCs, ofValue, ofCell, Option.map_some, Option.map_none, putT, aCallee, aUn, bLit, aExtract, Tr.get_set_if, TL.start_get, List.length_cons, List.length_nil, List.getElem?_cons_succ, List.getElem?_cons_zero, List.getElem?_nil, List.map_nil, List.map_cons, List.append_nil, List.nil_append, List.cons_append, bind_leaf, aBin, numOf, isShift, cmp_leq, cmp_lss, cmp_gtr, cmp_geq, cmp_eql, cmp_neq, arith_add, arith_sub, arith_mul, isLit, aArith, aPick, Option.elim_some, Option.elim_none, opsNo, Nat.reduceAdd, Nat.reduceSub, Nat.reduceLeDiff, Nat.reduceLT, Nat.reduceEqDiff, reduceIte, Bool.false_eq_true, Bool.true_eq_false, Bool.not_true, Bool.not_false, List.getElem?_toArray, Option.bind_some, Option.bind_none, endBody, aResults, aResL, aRes1, isV_c, isV_agg, isV_nil, isV_cons, isA_c, isA_agg, isC_il, isC_bl, isC_sl, isC_nsl, isC_sg, isC_sc, isC_pt, isC_npt, isC_fc, List.all_cons, List.all_nil, Bool.false_and, Bool.true_and, Bool.and_true, Bool.and_false, Bool.true_or, Bool.false_or, decide_true, decide_false, eq_self_iff_true, call_def, yld_def, opBuildSlice, evalPs, oneWord, runPl, takeG, aTake, isPure, flushL, List.isEmpty_nil, Bool.true_or, Bool.or_true, isAsk, keyG, keyK, nb_new, vc_leaf_eq, k5', k8', k10', k50', k55', h9', hc', hm', d4, b16, hadd2]
      simp only [Tree.vc_bind]
      refine Tree.vc_monoS ?_ (which_ok N (n+3) v1 ms (r * ms.sum + (ms.take i).sum + j + ms.sum) st4 hws hI (by omega) (by omega))
      rintro _ m6 ⟨rfl, rfl⟩
      rw [hW2]
      simp only [code_seq, seqK_normal, seqK_exit, seqK_ret, regK_leaf, code_region, code_cond, condK_true, condK_false, code_block, blkK_normal, blkK_ret, blkK_exit, code_skip, code_exit, code_ret, code_label, code_scope, bodyK_normal, bodyK_ret, retK_pair, aOpsY, aStepY, yldOf, isDefer, aStep, stepGen, stepCall, stepStore, guardOf, aOpV, opMove, opBin, opUn, opPick, opLoad, opIndexAddr, opExtract, opCall, opConv, atIx, lc, lf, lfb, lo, evalA, evalC, evalO, evalAs, evalCs, ofValue, ofCell, Option.map_some, Option.map_none, putT, aCallee, aUn, bLit, aExtract, Tr.get_set_if, TL.start_get, List.length_cons, List.length_nil, List.getElem?_cons_succ, List.getElem?_cons_zero, List.getElem?_nil, List.map_nil, List.map_cons, List.append_nil, List.nil_append, List.cons_append, bind_leaf, aBin, numOf, isShift, cmp_leq, cmp_lss, cmp_gtr, cmp_geq, cmp_eql, cmp_neq, arith_add, arith_sub, arith_mul, isLit, aArith, aPick, Option.elim_some, Option.elim_none, opsNo, Nat.reduceAdd, Nat.reduceSub, Nat.reduceLeDiff, Nat.reduceLT, Nat.reduceEqDiff, reduceIte, Bool.false_eq_true, Bool.true_eq_false, Bool.not_true, Bool.not_false, List.getElem?_toArray, Option.bind_some, Option.bind_none, endBody, aResults, aResL, aRes1, isV_c, isV_agg, isV_nil, isV_cons, isA_c, isA_agg, isC_il, isC_bl, isC_sl, isC_nsl, isC_sg, isC_sc, isC_pt, isC_npt, isC_fc, List.all_cons, List.all_nil, Bool.false_and, Bool.true_and, Bool.and_true, Bool.and_false, Bool.true_or, Bool.false_or, decide_true, decide_false, eq_self_iff_true, call_def, yld_def, opBuildSlice, evalPs, oneWord, runPl, takeG, aTake, isPure, flushL, List.isEmpty_nil, Bool.true_or, Bool.or_true, isAsk, keyG, keyK, nb_new, vc_leaf_eq, k5', k8', k10', k50', k55', h9', hc', hm', d4, b16, hadd2, hinc9, hinc']
      refine ⟨hjw, ?_, trivial, trivial, trivial, trivial, trivial, ?_⟩
      · repeat (refine Sets.set ?_ _ (by decide) _)
        exact .refl
      · repeat (refine Sets.set ?_ _ (by decide) _)
        exact hS
    · have d4 : decide ((j : Int) < (w : Int)) = false := by simpa using hjw
      have hjw' : j = w := by omega
      subst hjw'
      simp only [code_seq, seqK_normal, seqK_exit, seqK_ret, regK_leaf, code_region, code_cond, condK_true, condK_false, code_block, blkK_normal, blkK_ret, blkK_exit, code_skip, code_exit, code_ret, code_label, code_scope, bodyK_normal, bodyK_ret, retK_pair, aOpsY, aStepY, yldOf, isDefer, aStep, stepGen, stepCall, stepStore, guardOf, aOpV, opMove, opBin, opUn, opPick, opLoad, opIndexAddr, opExtract, opCall, opConv, atIx, lc, lf, lfb, lo, evalA, evalC, evalO, evalAs, evalCs, ofValue, ofCell, Option.map_some, Option.map_none, putT, aCallee, aUn, bLit, aExtract, Tr.get_set_if, TL.start_get, List.length_cons, List.length_nil, List.getElem?_cons_succ, List.getElem?_cons_zero, List.getElem?_nil, List.map_nil, List.map_cons, List.append_nil, List.nil_append, List.cons_append, bind_leaf, aBin, numOf, isShift, cmp_leq, cmp_lss, cmp_gtr, cmp_geq, cmp_eql, cmp_neq, arith_add, arith_sub, arith_mul, isLit, aArith, aPick, Option.elim_some, Option.elim_none, opsNo, Nat.reduceAdd, Nat.reduceSub, Nat.reduceLeDiff, Nat.reduceLT, Nat.reduceEqDiff, reduceIte, Bool.false_eq_true, Bool.true_eq_false, Bool.not_true, Bool.not_false, List.getElem?_toArray, Option.bind_some, Option.bind_none, endBody, aResults, aResL, aRes1, isV_c, isV_agg, isV_nil, isV_cons, isA_c, isA_agg, isC_il, isC_bl, isC_sl, isC_nsl, isC_sg, isC_sc, isC_pt, isC_npt, isC_fc, List.all_cons, List.all_nil, Bool.false_and, Bool.true_and, Bool.and_true, Bool.and_false, Bool.true_or, Bool.false_or, decide_true, decide_false, eq_self_iff_true, call_def, yld_def, opBuildSlice, evalPs, oneWord, runPl, takeG, aTake, isPure, flushL, List.isEmpty_nil, Bool.true_or, Bool.or_true, isAsk, keyG, keyK, nb_new, vc_leaf_eq, k5', k8', k10', k50', k55', h9', hc', hm', d4, hinc]
      refine ⟨hlt, ?_, trivial, trivial, trivial, trivial, ?_⟩
      · repeat (refine Sets.set ?_ _ (by decide) _)
        exact hS
      · rw [htk, hw, Int.add_assoc]
  · have d3 : decide ((i : Int) < (ms.length : Int)) = false := by simpa using hlt
    simp only [code_seq, seqK_normal, seqK_exit, seqK_ret, regK_leaf, code_region, code_cond, condK_true, condK_false, code_block, blkK_normal, blkK_ret, blkK_exit, code_skip, code_exit, code_ret, code_label, code_scope, bodyK_normal, bodyK_ret, retK_pair, aOpsY, aStepY, yldOf, isDefer, aStep, stepGen, stepCall, stepStore, guardOf, aOpV, opMove, opBin, opUn, opPick, opLoad, opIndexAddr, opExtract, opCall, opConv, atIx, lc, lf, lfb, lo, evalA, evalC, evalO, evalAs, evalCs, ofValue, ofCell, Option.map_some, Option.map_none, putT, aCallee, aUn, bLit, aExtract, Tr.get_set_if, TL.start_get, List.length_cons, List.length_nil, List.getElem?_cons_succ, List.getElem?_cons_zero, List.getElem?_nil, List.map_nil, List.map_cons, List.append_nil, List.nil_append, List.cons_append, bind_leaf, aBin, numOf, isShift, cmp_leq, cmp_lss, cmp_gtr, cmp_geq, cmp_eql, cmp_neq, arith_add, arith_sub, arith_mul, isLit, aArith, aPick, Option.elim_some, Option.elim_none, opsNo, Nat.reduceAdd, Nat.reduceSub, Nat.reduceLeDiff, Nat.reduceLT, Nat.reduceEqDiff, reduceIte, Bool.false_eq_true, Bool.true_eq_false, Bool.not_true, Bool.not_false, List.getElem?_toArray, Option.bind_some, Option.bind_none, endBody, aResults, aResL, aRes1, isV_c, isV_agg, isV_nil, isV_cons, isA_c, isA_agg, isC_il, isC_bl, isC_sl, isC_nsl, isC_sg, isC_sc, isC_pt, isC_npt, isC_fc, List.all_cons, List.all_nil, Bool.false_and, Bool.true_and, Bool.and_true, Bool.and_false, Bool.true_or, Bool.false_or, decide_true, decide_false, eq_self_iff_true, call_def, yld_def, opBuildSlice, evalPs, oneWord, runPl, takeG, aTake, isPure, flushL, List.isEmpty_nil, Bool.true_or, Bool.or_true, isAsk, keyG, keyK, nb_new, vc_leaf_eq, k48, k49, h9, hc, hm, d3, b13, haw]
end
end Go.Proofs.YtlncagdekfjinaaGreatDoor.bud
