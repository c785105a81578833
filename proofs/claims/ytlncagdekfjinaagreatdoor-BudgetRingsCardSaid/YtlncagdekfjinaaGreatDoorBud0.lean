import Derived.Test.YtlncagdekfjinaaGreatDoorSvA
import Derived.Test.YtlncagdekfjinaaGreatDoorProg
import Derived.KernelRfl
namespace Go.Proofs.YtlncagdekfjinaaGreatDoor.bud
open Go.RowKit Go.Proofs.VM
noncomputable section
def sYes : List AV → St → Tree (TV × St) := fun avs s => match avs with
  | [] => .leaf (.v (.c (.bl true)), s)
  | _ :: _ => .fail "yes"
def tab : List (FuncId × (List AV → St → Tree (TV × St))) := [(13, sYes)]
def md (_ : FuncId) : Md := .gen
def call (N n : Nat) : CallF := runF Tryz.prog (VM.look tab) md (fun c => aDraw Tryz.prog md c) N n
def yld (N n : Nat) : YldF := runFY Tryz.prog (VM.look tab) md (fun c => aDraw Tryz.prog md c) N n true
theorem call_def (N n : Nat) : runFY Tryz.prog (VM.look tab) md (fun c => aDraw Tryz.prog md c) N n false = call N n := rfl
theorem yld_def (N n : Nat) : runFY Tryz.prog (VM.look tab) md (fun c => aDraw Tryz.prog md c) N n true = yld N n := rfl
/-- A call is a run of the body. -/
theorem call_body (N n : Nat) (f : FuncId) (avs : List AV) (s : St) {fn : Func} {c : Code} (h : VM.look tab f = none) (hf : Tryz.prog.funcs[f]? = some fn) (hb : fn.body = some c) :
    call N (n + 1) f avs s = ((aCode Tryz.prog (call N n) (yld N n) (aDraw Tryz.prog md (call N n)) N false c ⟨⟨TL.start (avs.length + (fn.ntmps - avs.length)) avs, s⟩, []⟩).bind (bodyK Tryz.prog fn s)).bind (retK s) := by
  rw [← body_run hf hb]
  show runFY Tryz.prog (VM.look tab) md (fun c => aDraw Tryz.prog md c) N (n + 1) false f avs s = _
  unfold runFY
  simp only [h]
  rfl
theorem awake_eq (N n : Nat) (s : St) : call N (n + 1) 13 [] s = .leaf (.v (.c (.bl true)), s) := rfl
theorem b13 : bodied Tryz.prog 13 = true := by kernel_rfl
theorem b64 : bodied Tryz.prog 64 = true := by kernel_rfl
theorem b65 : bodied Tryz.prog 65 = true := by kernel_rfl
theorem u24 : Tryz.prog.underlying 24 = some (.slice 3) := by kernel_rfl
theorem z3 : sizeT Tryz.prog 3 = some 1 := by kernel_rfl
theorem ty24 : Ty Tryz.prog 24 3 1 [.il .i64 0] := .of (by kernel_rfl)
theorem zero3 : zeroT Tryz.prog 3 = some (.int .i64 0) := by kernel_rfl
theorem r3 : rowT Tryz.prog 3 = some false := by kernel_rfl
theorem bs24 (s : St) (x : Int) : aBuildSlice Tryz.prog s 24 1 [(0, .c (.il .i64 x))] = some (.v (.c (.sc s.nb 0 1 1)), s.new 3 [.il .i64 x]) := by
  simp [aBuildSlice, z3, zero3, ofCells, ofCell, Value.cells, aFill, reps, AV.cells, setsL, CV.noW]
set_option maxRecDepth 100000
set_option linter.unusedSimpArgs false
theorem between_eq (N n : Nat) (x a b : Int) (s : St) (hw : Wf s) : call N (n+1) 64 [.c (.il .i64 x), .c (.il .i64 a), .c (.il .i64 b)] s = .leaf (.v (.c (.bl (decide (a ≤ x) && decide (x ≤ b)))), s) := by
  have hw := hw.self
  rw [call_body _ _ _ _ _ rfl Tryz.func64 rfl]
  simp only [Tryz.f64]
  cases h1 : decide (a ≤ x) <;>
  simp only [code_seq, seqK_normal, seqK_exit, seqK_ret, regK_leaf, code_region, code_cond, condK_true, condK_false, code_block, blkK_normal, blkK_ret, blkK_exit, code_skip, code_exit, code_ret, code_label, code_scope, bodyK_normal, bodyK_ret, retK_pair, aOpsY, aStepY, yldOf, isDefer, aStep, stepGen, stepCall, stepStore, guardOf, aOpV, opMove, opBin, opUn, opPick, opLoad, opIndexAddr, opExtract, opCall, opConv, atIx, lc, lf, lfb, lo, evalA, evalC, evalO, evalAs, evalCs, ofValue, ofCell, Option.map_some, Option.map_none, putT, aCallee, aUn, bLit, aExtract, Tr.get_set_if, TL.start_get, List.length_cons, List.length_nil, List.getElem?_cons_succ, List.getElem?_cons_zero, List.getElem?_nil, List.map_nil, List.map_cons, List.append_nil, List.nil_append, List.cons_append, bind_leaf, aBin, numOf, isShift, cmp_leq, cmp_lss, cmp_gtr, cmp_geq, cmp_eql, cmp_neq, arith_add, arith_sub, arith_mul, isLit, aArith, aPick, Option.elim_some, Option.elim_none, opsNo, Nat.reduceAdd, Nat.reduceSub, Nat.reduceLeDiff, Nat.reduceLT, Nat.reduceEqDiff, reduceIte, Bool.false_eq_true, Bool.true_eq_false, Bool.not_true, Bool.not_false, List.getElem?_toArray, Option.bind_some, Option.bind_none, endBody, aResults, aResL, aRes1, isV_c, isV_agg, isV_nil, isV_cons, isA_c, isA_agg, isC_il, isC_bl, isC_sl, isC_nsl, isC_sg, isC_sc, isC_pt, isC_npt, isC_fc, List.all_cons, List.all_nil, Bool.false_and, Bool.true_and, Bool.and_true, Bool.and_false, Bool.true_or, Bool.false_or, decide_true, decide_false, eq_self_iff_true, call_def, yld_def, opBuildSlice, evalPs, oneWord, runPl, takeG, aTake, isPure, flushL, List.isEmpty_nil, Bool.true_or, Bool.or_true, isAsk, keyG, keyK, nb_new, vc_leaf_eq, h1, hw]
end
end Go.Proofs.YtlncagdekfjinaaGreatDoor.bud

namespace Go.Proofs.YtlncagdekfjinaaGreatDoor.bud
open Go.RowKit Go.Proofs.VM
noncomputable section
set_option maxRecDepth 100000
set_option linter.unusedSimpArgs false
variable {txt : Rat → List UInt8} {m : M}
/-- Two rows of one's own, which are two. -/
def Apart (v u : CV) : Prop := ∀ b ∈ bid v, b ∉ bid u
/-- A row that lies beyond a state's blocks. -/
def New (s : St) (v : CV) : Prop := ∀ b ∈ bid v, s.nb ≤ b
theorem b15 : bodied Tryz.prog 15 = true := by kernel_rfl
theorem sum_ok (N n : Nat) (v : CV) (zs : List Int) (s : St) (hw : Wf s) (hv : Ints s v .i64 zs) (hN : zs.length < N) (hl : zs.length ≤ 1000000) (hz : ∀ z ∈ zs, -1099511627776 ≤ z ∧ z ≤ 1099511627776) :
    (call N (n+1) 15 [.c v] s).vc txt m fun r m' => r = (.v (.c (.il .i64 zs.sum)), s) ∧ m' = m := by
  have hlen := Vw.blen hv u24
  have hw := hw.self
  rw [call_body _ _ _ _ _ rfl Tryz.func15 rfl]
  simp only [Tryz.f15]
  simp only [code_seq, seqK_normal, seqK_exit, seqK_ret, regK_leaf, code_region, code_cond, condK_true, condK_false, code_block, blkK_normal, blkK_ret, blkK_exit, code_skip, code_exit, code_ret, code_label, code_scope, bodyK_normal, bodyK_ret, retK_pair, aOpsY, aStepY, yldOf, isDefer, aStep, stepGen, stepCall, stepStore, guardOf, aOpV, opMove, opBin, opUn, opPick, opLoad, opIndexAddr, opExtract, opCall, opConv, atIx, lc, lf, lfb, lo, evalA, evalC, evalO, evalAs, evalCs, ofValue, ofCell, Option.map_some, Option.map_none, putT, aCallee, aUn, bLit, aExtract, Tr.get_set_if, TL.start_get, List.length_cons, List.length_nil, List.getElem?_cons_succ, List.getElem?_cons_zero, List.getElem?_nil, List.map_nil, List.map_cons, List.append_nil, List.nil_append, List.cons_append, bind_leaf, aBin, numOf, isShift, cmp_leq, cmp_lss, cmp_gtr, cmp_geq, cmp_eql, cmp_neq, arith_add, arith_sub, arith_mul, isLit, aArith, aPick, Option.elim_some, Option.elim_none, opsNo, Nat.reduceAdd, Nat.reduceSub, Nat.reduceLeDiff, Nat.reduceLT, Nat.reduceEqDiff, reduceIte, Bool.false_eq_true, Bool.true_eq_false, Bool.not_true, Bool.not_false, List.getElem?_toArray, Option.bind_some, Option.bind_none, endBody, aResults, aResL, aRes1, isV_c, isV_agg, isV_nil, isV_cons, isA_c, isA_agg, isC_il, isC_bl, isC_sl, isC_nsl, isC_sg, isC_sc, isC_pt, isC_npt, isC_fc, List.all_cons, List.all_nil, Bool.false_and, Bool.true_and, Bool.and_true, Bool.and_false, Bool.true_or, Bool.false_or, decide_true, decide_false, eq_self_iff_true, call_def, yld_def, opBuildSlice, evalPs, oneWord, runPl, takeG, aTake, isPure, flushL, List.isEmpty_nil, Bool.true_or, Bool.or_true, isAsk, keyG, keyK, nb_new, vc_leaf_eq, hlen]
  simp only [Tree.vc_bind]
  rw [code_loop]
  refine vc_range [2, 3, 5, 8, 9, 10, 11, 12, 13, 14, 15, 16] [(6, .v (.c v)), (7, .v (.c (.il .i64 zs.length)))] 17 8 zs.length (fun i t st m' => st = s ∧ m' = m ∧ t.get 3 = some (.v (.c (.il .i64 (zs.take i).sum))) ∧ -(1099511627776 * i) ≤ (zs.take i).sum ∧ (zs.take i).sum ≤ 1099511627776 * i) (by simp) (by simp only [List.forall_mem_cons]; exact ⟨rfl, rfl, fun _ h => by cases h⟩) (by simp only [Tr.all_set_iff]; exact TL.start_all _ _ (by simp)) rfl hN ⟨rfl, rfl, rfl, by simp, by simp⟩ ?_
  rintro i t st m' hi hfac hm hta hc ⟨rfl, rfl, h3, hb1, hb2⟩
  simp only [List.forall_mem_cons] at hfac
  obtain ⟨k6, k7, -⟩ := hfac
  by_cases hlt : i < zs.length
  · obtain ⟨b, off, -, hidx, hload⟩ := Ints.at2 hv u24 z3 r3 (by omega)
    have d1 : decide ((i : Int) < (zs.length : Int)) = true := by simpa using hlt
    have hx := hidx .i64 i hlt
    have hy := hload i hlt
    obtain ⟨q1, q2⟩ := hz zs[i] (List.getElem_mem hlt)
    have htk : (zs.take (i + 1)).sum = (zs.take i).sum + zs[i] := by rw [List.take_succ_eq_append_getElem hlt, List.sum_append]; simp
    have hinc : IntKind.i64.wrap ((i : Int) + 1) = ((i + 1 : Nat) : Int) := by rw [wrap64 (by omega) (by omega)]; rfl
    have hadd : IntKind.i64.wrap ((zs.take i).sum + zs[i]) = (zs.take (i + 1)).sum := by rw [wrap64 (by omega) (by omega), htk]
    simp only [code_seq, seqK_normal, seqK_exit, seqK_ret, regK_leaf, code_region, code_cond, condK_true, condK_false, code_block, blkK_normal, blkK_ret, blkK_exit, code_skip, code_exit, code_ret, code_label, code_scope, bodyK_normal, bodyK_ret, retK_pair, aOpsY, aStepY, yldOf, isDefer, aStep, stepGen, stepCall, stepStore, guardOf, aOpV, opMove, opBin, opUn, opPick, opLoad, opIndexAddr, opExtract, opCall, opConv, atIx, lc, lf, lfb, lo, evalA, evalC, evalO, evalAs, evalCs, ofValue, ofCell, Option.map_some, Option.map_none, putT, aCallee, aUn, bLit, aExtract, Tr.get_set_if, TL.start_get, List.length_cons, List.length_nil, List.getElem?_cons_succ, List.getElem?_cons_zero, List.getElem?_nil, List.map_nil, List.map_cons, List.append_nil, List.nil_append, List.cons_append, bind_leaf, aBin, numOf, isShift, cmp_leq, cmp_lss, cmp_gtr, cmp_geq, cmp_eql, cmp_neq, arith_add, arith_sub, arith_mul, isLit, aArith, aPick, Option.elim_some, Option.elim_none, opsNo, Nat.reduceAdd, Nat.reduceSub, Nat.reduceLeDiff, Nat.reduceLT, Nat.reduceEqDiff, reduceIte, Bool.false_eq_true, Bool.true_eq_false, Bool.not_true, Bool.not_false, List.getElem?_toArray, Option.bind_some, Option.bind_none, endBody, aResults, aResL, aRes1, isV_c, isV_agg, isV_nil, isV_cons, isA_c, isA_agg, isC_il, isC_bl, isC_sl, isC_nsl, isC_sg, isC_sc, isC_pt, isC_npt, isC_fc, List.all_cons, List.all_nil, Bool.false_and, Bool.true_and, Bool.and_true, Bool.and_false, Bool.true_or, Bool.false_or, decide_true, decide_false, eq_self_iff_true, call_def, yld_def, opBuildSlice, evalPs, oneWord, runPl, takeG, aTake, isPure, flushL, List.isEmpty_nil, Bool.true_or, Bool.or_true, isAsk, keyG, keyK, nb_new, vc_leaf_eq, k6, k7, h3, hc, hm, d1, hx, hy, hinc, hadd, vc_leaf_eq, hw]
    refine ⟨hlt, ?_, trivial, trivial, trivial, trivial, trivial, ?_, ?_⟩
    · repeat (refine Sets.set ?_ _ (by decide) _)
      exact .refl
    · rw [htk]; push_cast; omega
    · rw [htk]; push_cast; omega
  · have d1 : decide ((i : Int) < (zs.length : Int)) = false := by simpa using hlt
    have : zs.take i = zs := List.take_of_length_le (by omega)
    simp only [code_seq, seqK_normal, seqK_exit, seqK_ret, regK_leaf, code_region, code_cond, condK_true, condK_false, code_block, blkK_normal, blkK_ret, blkK_exit, code_skip, code_exit, code_ret, code_label, code_scope, bodyK_normal, bodyK_ret, retK_pair, aOpsY, aStepY, yldOf, isDefer, aStep, stepGen, stepCall, stepStore, guardOf, aOpV, opMove, opBin, opUn, opPick, opLoad, opIndexAddr, opExtract, opCall, opConv, atIx, lc, lf, lfb, lo, evalA, evalC, evalO, evalAs, evalCs, ofValue, ofCell, Option.map_some, Option.map_none, putT, aCallee, aUn, bLit, aExtract, Tr.get_set_if, TL.start_get, List.length_cons, List.length_nil, List.getElem?_cons_succ, List.getElem?_cons_zero, List.getElem?_nil, List.map_nil, List.map_cons, List.append_nil, List.nil_append, List.cons_append, bind_leaf, aBin, numOf, isShift, cmp_leq, cmp_lss, cmp_gtr, cmp_geq, cmp_eql, cmp_neq, arith_add, arith_sub, arith_mul, isLit, aArith, aPick, Option.elim_some, Option.elim_none, opsNo, Nat.reduceAdd, Nat.reduceSub, Nat.reduceLeDiff, Nat.reduceLT, Nat.reduceEqDiff, reduceIte, Bool.false_eq_true, Bool.true_eq_false, Bool.not_true, Bool.not_false, List.getElem?_toArray, Option.bind_some, Option.bind_none, endBody, aResults, aResL, aRes1, isV_c, isV_agg, isV_nil, isV_cons, isA_c, isA_agg, isC_il, isC_bl, isC_sl, isC_nsl, isC_sg, isC_sc, isC_pt, isC_npt, isC_fc, List.all_cons, List.all_nil, Bool.false_and, Bool.true_and, Bool.and_true, Bool.and_false, Bool.true_or, Bool.false_or, decide_true, decide_false, eq_self_iff_true, call_def, yld_def, opBuildSlice, evalPs, oneWord, runPl, takeG, aTake, isPure, flushL, List.isEmpty_nil, Bool.true_or, Bool.or_true, isAsk, keyG, keyK, nb_new, vc_leaf_eq, k6, k7, h3, hc, hm, d1, vc_leaf_eq, hw, this]
    exact ⟨trivial, trivial⟩
end
end Go.Proofs.YtlncagdekfjinaaGreatDoor.bud
