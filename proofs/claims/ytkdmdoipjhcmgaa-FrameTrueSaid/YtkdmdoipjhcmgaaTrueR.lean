/- FrameTrue holds: for every start, rate, tests and time the law returns true, and its arguments read as they read. No condition. -/
import Derived.Test.YtkdmdoipjhcmgaaTrue
namespace Go.Proofs.Ytkdmdoipjhcmgaa.truth
open Go.ChangeShapes Go.WideShapes Go.ChangeAt Go.RowKit

set_option maxRecDepth 1000000 in
theorem walk_long (a : Option Addr) (cap n : Nat) (s rate at_ : Int) (w : World) (hm : n ≤ 9223372036854775807) (h : n < 1 ∨ 10 < n) :
    Calls Try.prog 7 #[.int .u16 s, .int .u16 rate, .slice a n cap, .int .u32 at_] w fun e w' => e = .returned (.bool true) ∧ Below w.heap.size w w' := by
  rcases h with h | h
  · have h2 : ¬ 10 < n := by omega
    go_enter Try.func7, Try.ntmps7
    go_wp2_with fail
    refine (awake_any _).mono ?_
    rintro e w5 ⟨rfl, hb7⟩
    go_wp2_with fail
    go_ret
    exact ⟨rfl, after_alloc hb7⟩
  · go_enter Try.func7, Try.ntmps7
    go_wp2_with fail
    refine (awake_any _).mono ?_
    rintro e w5 ⟨rfl, hb7⟩
    go_wp2_with fail
    go_ret
    exact ⟨rfl, after_alloc hb7⟩

theorem cells16 : Try.prog.cellsOf 92 = 1 := by kernel_rfl
theorem cellsT : Try.prog.cellsOf 95 = 3 := by kernel_rfl
theorem wf16 {n : Int} (h : (Lit.int .u16 n).wf = true) : 0 ≤ n ∧ n ≤ 65535 := by
  simp only [Lit.wf, Bool.and_eq_true, decide_eq_true_eq] at h
  have h1 : IntKind.u16.min = 0 := rfl
  have h2 : IntKind.u16.max = 65535 := rfl
  omega
theorem wf32 {n : Int} (h : (Lit.int .u32 n).wf = true) : 0 ≤ n ∧ n ≤ 4294967295 := by
  simp only [Lit.wf, Bool.and_eq_true, decide_eq_true_eq] at h
  have h1 : IntKind.u32.min = 0 := rfl
  have h2 : IntKind.u32.max = 4294967295 := rfl
  omega
set_option maxRecDepth 100000 in
/-- What reads as three numbers is three numbers. -/
theorem ts_of {H : Type} {enc : TypeId × Value → H} {W : World} {n : Nat} {cs : List Value} {x : DataW H × List MemPlace} (h : DataW.trod enc Try.prog W 0 (fun _ => true) true n 95 cs = some x) (hlen : cs.length = 3) :
    ∃ t : Ts, TsOk t ∧ cs = [.int .u16 t.a, .int .u16 t.b, .int .u16 t.c] := by
  obtain ⟨xs, m1, _, _, _, hn3, hel⟩ := DataW.trod_array Try.underlying95 h
  match cs, hlen with
  | [c0, c1, c2], _ =>
    match xs, hn3 with
    | [x0, x1, x2], _ =>
      have h0 := hel 0 (by decide)
      have h1 := hel 1 (by decide)
      have h2 := hel 2 (by decide)
      simp only [cells16, Nat.mul_one, List.drop_zero, List.take_succ_cons, List.take_zero, List.drop_succ_cons, List.getElem?_cons_zero, List.getElem?_cons_succ] at h0 h1 h2
      obtain ⟨a, e0, _, w0⟩ := DataW.trod_int Try.underlying92 h0
      obtain ⟨b, e1, _, w1⟩ := DataW.trod_int Try.underlying92 h1
      obtain ⟨c, e2, _, w2⟩ := DataW.trod_int Try.underlying92 h2
      simp only [List.cons.injEq, and_true] at e0 e1 e2
      subst e0 e1 e2
      exact ⟨⟨a, b, c⟩, ⟨wf16 w0, wf16 w1, wf16 w2⟩, rfl⟩

set_option maxRecDepth 100000 in
/-- An argument that is a list of three numbers each. -/
theorem open_tss {H : Type} {enc : TypeId × Value → H} {W : World} {r : Reach} {b0 : Nat} {v : Value} {d : DataW H} {p : List MemPlace} (hval : Value.okWide Try.prog W r b0 93 v)
    (hd : DataW.Trod enc Try.prog W 0 (fun _ => true) true 93 v d p) : ∃ a len cap l, v = .slice a len cap ∧ l.length = len ∧ len ≤ maxLen ∧ TssAt W W.heap.size a l ∧ ∀ t ∈ l, TsOk t := by
  obtain ⟨a0, len, cap, rfl⟩ := okWide_slice Try.underlying93 hval
  obtain ⟨fuel, hf⟩ := hd
  rcases Deep.open_slice Try.underlying93 hf with ⟨hcs, _⟩ | ⟨a, len', cap', m, n, D, Pl, hcs, _, hl, hm, hmm, _, hel⟩
  · simp [Value.cells] at hcs
    obtain ⟨rfl, rfl, rfl⟩ := hcs
    exact ⟨none, 0, 0, [], rfl, rfl, Nat.zero_le _, fun h => absurd h (Nat.lt_irrefl 0), fun t ht => (by cases ht)⟩
  · simp [Value.cells] at hcs
    obtain ⟨rfl, rfl, rfl⟩ := hcs
    simp only [if_true] at hmm
    have key : ∀ i, i < len → ∃ t : Ts, TsOk t ∧ TsAt W (a.add (i * 3)) t := fun i hi => by
      obtain ⟨cs', hc, ht⟩ := hel i (by omega)
      rw [cellsT] at hc
      obtain ⟨_, hlen, hat⟩ := World.cells?_some hc
      obtain ⟨t, hok, rfl⟩ := ts_of ht hlen
      have h0 := hat 0 (by omega)
      have h1 := hat 1 (by omega)
      have h2 := hat 2 (by omega)
      rw [times.add_two _ _ _ (by omega)] at h1 h2
      exact ⟨t, hok, h0, h1, h2⟩
    let l : List Ts := List.ofFn fun i : Fin len => Classical.choose (key i i.2)
    have hlen : l.length = len := List.length_ofFn
    refine ⟨some a, len, cap, l, rfl, hlen, Nat.le_trans hl hm, fun h0 => ⟨a, rfl, ?_, fun i hi => ?_⟩, fun t ht => ?_⟩
    · rw [hlen] at h0
      obtain ⟨t, _, hc⟩ := key 0 h0
      have := block_lt_of_cell hc.a
      rwa [add_block] at this
    · have e : l[i] = Classical.choose (key i (by rw [← hlen]; exact hi)) := List.getElem_ofFn ..
      rw [e]
      exact (Classical.choose_spec (key i (by rw [← hlen]; exact hi))).2
    · obtain ⟨i, hi, rfl⟩ := List.getElem_of_mem ht
      have e : l[i] = Classical.choose (key i (by rw [← hlen]; exact hi)) := List.getElem_ofFn ..
      rw [e]
      exact (Classical.choose_spec (key i (by rw [← hlen]; exact hi))).1
theorem params_ok : ∀ t ∈ Try.f7.params.toList, Try.prog.readableRec t = true ∧ t < Try.prog.types.size := by
  rw [Try.params7]
  intro t ht
  simp at ht
  rcases ht with rfl | rfl | rfl <;> exact ⟨by kernel_rfl, of_decide_eq_true (by kernel_rfl)⟩
set_option maxRecDepth 100000 in
theorem contract (H : Type) (enc : TypeId × Value → H) (W : World) (base : Nat) (args : Array Value) (ds gs : List (DataW H)) (before : List MemPlace)
    (hval : ∀ (j : Nat) t v, Try.f7.params[j]? = some t → args[j]? = some v → Value.okWide Try.prog W .any base t v)
    (hW : DataW.Whole enc Try.prog Try.f7.params.toList Rows.frameTrueSpec.vars false W args.toList ds gs before) :
    Calls Try.prog 7 args W fun e W' => ∃ v, e = .returned v ∧ Rows.frameTrueSpec.post enc Try.prog Try.f7 false true false false W args v W' := by
  have hW' := hW
  obtain ⟨p, q, hA0, hV, rfl, hfz, hnd⟩ := hW
  have hA : DataW.TrodAll enc Try.prog W 0 (fun _ => true) true Try.f7.params.toList args.toList ds p := hA0
  rw [Try.params7] at hA hval
  obtain ⟨v0, vs0, d0, ds0, p0, q0, hargs, rfl, rfl, h0, r0⟩ := trodAll_cons hA
  obtain ⟨v1, vs1, d1, ds1, p1, q1, rfl, rfl, rfl, h1, r1⟩ := trodAll_cons r0
  obtain ⟨v2, vs2, d2, ds2, p2, q2, rfl, rfl, rfl, h2, r2⟩ := trodAll_cons r1
  obtain ⟨v3, vs3, d3, ds3, p3, q3, rfl, rfl, rfl, h3, r3⟩ := trodAll_cons r2
  obtain ⟨rfl, rfl, rfl⟩ := trodAll_nil r3
  obtain rfl : args = #[v0, v1, v2, v3] := by cases args; simp_all
  obtain ⟨rfl, rfl⟩ := trodVars_none hV
  obtain ⟨s, rfl, rfl, rfl, hs⟩ := open_int Try.underlying92 (hval 0 92 v0 rfl rfl) h0
  obtain ⟨rate, rfl, rfl, rfl, hr⟩ := open_int Try.underlying92 (hval 1 92 v1 rfl rfl) h1
  obtain ⟨a, n, cap, l, rfl, hl1, hm1, hl, hok⟩ := open_tss (hval 2 93 v2 rfl rfl) h2
  obtain ⟨at_, rfl, rfl, rfl, ha⟩ := open_int Try.underlying34 (hval 3 34 v3 rfl rfl) h3
  clear hA0 hA
  simp only [List.append_nil] at hW'
  have hs' := wf16 hs
  have hr' := wf16 hr
  have ha' := wf32 ha
  have walk : Calls Try.prog 7 #[.int .u16 s, .int .u16 rate, .slice a n cap, .int .u32 at_] W fun e w' => e = .returned (.bool true) ∧ Below W.heap.size W w' := by
    by_cases h : 1 ≤ n ∧ n ≤ 10
    · exact walk_main a cap n l hl1 s rate at_ hs'.1 hs'.2 hr'.1 hr'.2 ha'.1 ha'.2 W hl hok h.1 h.2
    · exact walk_long a cap n s rate at_ W hm1 (by omega)
  refine walk.mono fun e W' ⟨he, hb⟩ => ⟨_, he, ?_⟩
  exact post_true laidOut params_ok rfl (by kernel_rfl) Try.underlying4 hW' rfl hb

set_option maxRecDepth 100000 in
theorem lifted (os : Os) (started : os.Started) (H : Type) (enc : TypeId × Value → H) :
    ReturnsInHanded {} Try.checked os 7 .any (Rows.frameTrueSpec.pre6 enc Try.prog Try.f7 Rows.frameTrueRow.domain false) (Rows.frameTrueSpec.post enc Try.prog Try.f7 false true false false) := by
  refine returnsInHanded_of_change (C := Try.checked) own started (by kernel_rfl) Try.func7
    (ChangeSpec.witness6 (enc := enc) (C := Try.checked) false ⟨#[], #[.int .u16 0, .int .u16 0, .slice none 0 0, .int .u32 0], []⟩ 8 (by kernel_rfl) (by kernel_rfl) (by kernel_rfl) (by kernel_rfl)) ?_
  intro W base args ds gs before hval hW _ _
  exact contract H enc W base args ds gs before hval hW

theorem proved : Rows.FrameTrueSaid :=
  OpenClaim.holds_of_wide 7 Try.f7 rfl rfl rfl rfl rfl rfl rfl ⟨rfl, rfl, rfl, rfl, rfl⟩ rfl rfl rfl rfl rfl (by kernel_rfl) Try.func7 (by kernel_rfl)
    (of_decide_eq_true (by kernel_rfl)) (by unfold Func.isWrapper; first | (rw [if_pos (by decide +kernel)]; kernel_rfl) | (rw [if_neg (by decide +kernel)]; exact ⟨rfl, rfl⟩))
    (fun os started H enc _ => lifted os started H enc)
#print axioms proved
end Go.Proofs.Ytkdmdoipjhcmgaa.truth
