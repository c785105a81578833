/- FrameSeals holds: for every frame, block, place and byte the law returns true, and its arguments read as they read. No condition. -/
import Derived.Test.YtjahaljdfpengaaSeals
namespace Go.Proofs.Ytjahaljdfpengaa.seals
open Go.ChangeShapes Go.WideShapes Go.ChangeAt Go.RowKit

theorem okWide_array {P : Program} {w : World} {r : Reach} {base : Nat} {t : TypeId} {v : Value} {n : Nat} {e : TypeId} (ht : P.underlying t = some (.array n e)) (h : Value.okWide P w r base t v) : ∃ cs, v = .agg cs ∧ cs.size = P.cellsOf t := by
  simp only [Value.okWide, ht] at h
  obtain ⟨cs, h1, h2, _⟩ := h
  exact ⟨cs, h1, h2⟩
theorem trod_float {H : Type} {enc : TypeId × Value → H} {P : Program} {w : World} {base : Nat} {spare : Nat → Bool} {held : Bool} {fuel : Nat} {t : TypeId} {cs : List Value} {x : DataW H × List MemPlace} {k : FloatKind} (ht : P.underlying t = some (.float k))
    (h : DataW.trod enc P w base spare held fuel t cs = some x) : ∃ n, cs = [.float k n] ∧ x = (.lit (.float k n), []) ∧ (Lit.float k n).wf = true := by
  cases fuel with
  | zero => simp [DataW.trod] at h
  | succ n =>
    unfold DataW.trod at h
    rw [ht] at h
    split at h <;> simp_all
theorem wf8 {n : Int} (h : (Lit.int .u8 n).wf = true) : 0 ≤ n ∧ n < 256 := by
  simp only [Lit.wf, Bool.and_eq_true, decide_eq_true_eq] at h
  have h1 : IntKind.u8.min = 0 := rfl
  have h2 : IntKind.u8.max = 255 := rfl
  omega
theorem wff {n : Nat} (h : (Lit.float .f32 n).wf = true) : n < 4294967296 := by
  simp only [Lit.wf, decide_eq_true_eq] at h
  omega
theorem cellsU8 : Try.prog.cellsOf 5 = 1 := by kernel_rfl
theorem cellsInt : Try.prog.cellsOf 3 = 1 := by kernel_rfl
theorem cellsF : Try.prog.cellsOf 22 = 1 := by kernel_rfl
theorem cellsF4 : Try.prog.cellsOf 23 = 4 := by kernel_rfl
theorem cellsFr : Try.prog.cellsOf 25 = 9 := by kernel_rfl
theorem cellsBl : Try.prog.cellsOf 27 = 40 := by kernel_rfl
theorem byts_of : ∀ (cs : List Value), (∀ v ∈ cs, ∃ z, z < 256 ∧ v = byt z) → ∃ l : List Nat, (∀ x ∈ l, x < 256) ∧ cs = l.map byt
  | [], _ => ⟨[], fun x hx => (by cases hx), rfl⟩
  | v :: cs, h => by
    obtain ⟨l, hl, rfl⟩ := byts_of cs fun u hu => h u (by simp [hu])
    obtain ⟨z, hz, rfl⟩ := h v (by simp)
    refine ⟨z :: l, fun x hx => ?_, rfl⟩
    rcases List.mem_cons.1 hx with rfl | hx
    · exact hz
    · exact hl x hx
/-- What reads as a block is 40 bytes. -/
theorem block_of {H : Type} {enc : TypeId × Value → H} {W : World} {n : Nat} {cs : List Value} {x : DataW H × List MemPlace} (h : DataW.trod enc Try.prog W 0 (fun _ => true) true n 27 cs = some x) :
    ∃ l : List Nat, l.length = 40 ∧ (∀ x ∈ l, x < 256) ∧ cs = l.map byt := by
  obtain ⟨xs, m1, _, _, hlen, hn, hel⟩ := DataW.trod_array Try.underlying27 h
  rw [cellsBl] at hlen
  have key : ∀ i, i < 40 → ∃ z : Nat, z < 256 ∧ cs[i]? = some (byt z) := fun i hi => by
    have h1 := hel i hi
    rw [cellsU8, Nat.mul_one] at h1
    have h2 : ∃ y, xs[i]? = some y := ⟨_, List.getElem?_eq_getElem (by omega)⟩
    obtain ⟨y, hy⟩ := h2
    rw [hy] at h1
    obtain ⟨z, e, _, hw⟩ := DataW.trod_int Try.underlying5 h1
    have hz := wf8 hw
    refine ⟨z.toNat, by omega, ?_⟩
    have h3 : (List.take 1 (List.drop i cs))[0]? = some (.int .u8 z) := by rw [e]; rfl
    rw [List.getElem?_take] at h3
    simp only [Nat.zero_lt_one, if_true, List.getElem?_drop, Nat.add_zero] at h3
    rw [h3]
    congr 2
    omega
  obtain ⟨l, hl, e⟩ := byts_of cs fun v hv => by
    obtain ⟨i, hi, rfl⟩ := List.mem_iff_getElem.1 hv
    obtain ⟨z, hz, e⟩ := key i (by omega)
    rw [List.getElem?_eq_getElem hi] at e
    exact ⟨z, hz, Option.some.inj e⟩
  exact ⟨l, by rw [e, List.length_map] at hlen; exact hlen, hl, e⟩
set_option maxRecDepth 100000 in
/-- What reads as a frame. -/
theorem frame_of {H : Type} {enc : TypeId × Value → H} {W : World} {n : Nat} {cs : List Value} {x : DataW H × List MemPlace} (h : DataW.trod enc Try.prog W 0 (fun _ => true) true n 25 cs = some x) :
    ∃ (st lo li nu cl : Int) (v0 v1 v2 v3 : Nat), v0 < 4294967296 ∧ v1 < 4294967296 ∧ v2 < 4294967296 ∧ v3 < 4294967296 ∧ cs = [.int .i64 st, .int .i64 lo, .int .i64 li, .int .i64 nu, .int .i64 cl, .float .f32 v0, .float .f32 v1, .float .f32 v2, .float .f32 v3] := by
  obtain ⟨xs, n1, _, _, hlen, hx, hf⟩ := DataW.trod_struct Try.underlying25 h
  rw [cellsFr] at hlen
  match cs, hlen with
  | [c0, c1, c2, c3, c4, c5, c6, c7, c8], _ =>
    match xs, hx with
    | [x0, x1, x2, x3, x4, x5], _ =>
      have h0 : DataW.trod enc Try.prog W 0 (fun _ => true) true n1 3 (List.take (Try.prog.cellsOf 3) (List.drop 0 [c0, c1, c2, c3, c4, c5, c6, c7, c8])) = [x0, x1, x2, x3, x4, x5][0]? := hf 0 _ rfl
      have h1 : DataW.trod enc Try.prog W 0 (fun _ => true) true n1 3 (List.take (Try.prog.cellsOf 3) (List.drop 1 [c0, c1, c2, c3, c4, c5, c6, c7, c8])) = [x0, x1, x2, x3, x4, x5][1]? := hf 1 _ rfl
      have h2 : DataW.trod enc Try.prog W 0 (fun _ => true) true n1 3 (List.take (Try.prog.cellsOf 3) (List.drop 2 [c0, c1, c2, c3, c4, c5, c6, c7, c8])) = [x0, x1, x2, x3, x4, x5][2]? := hf 2 _ rfl
      have h3 : DataW.trod enc Try.prog W 0 (fun _ => true) true n1 3 (List.take (Try.prog.cellsOf 3) (List.drop 3 [c0, c1, c2, c3, c4, c5, c6, c7, c8])) = [x0, x1, x2, x3, x4, x5][3]? := hf 3 _ rfl
      have h4 : DataW.trod enc Try.prog W 0 (fun _ => true) true n1 3 (List.take (Try.prog.cellsOf 3) (List.drop 4 [c0, c1, c2, c3, c4, c5, c6, c7, c8])) = [x0, x1, x2, x3, x4, x5][4]? := hf 4 _ rfl
      have h5 : DataW.trod enc Try.prog W 0 (fun _ => true) true n1 23 (List.take (Try.prog.cellsOf 23) (List.drop 5 [c0, c1, c2, c3, c4, c5, c6, c7, c8])) = [x0, x1, x2, x3, x4, x5][5]? := hf 5 _ rfl
      simp only [cellsInt, cellsF4, List.drop_zero, List.take_succ_cons, List.take_zero, List.drop_succ_cons, List.getElem?_cons_zero, List.getElem?_cons_succ] at h0 h1 h2 h3 h4 h5
      obtain ⟨a, e0, _, _⟩ := DataW.trod_int Try.underlying3 h0
      obtain ⟨b, e1, _, _⟩ := DataW.trod_int Try.underlying3 h1
      obtain ⟨c, e2, _, _⟩ := DataW.trod_int Try.underlying3 h2
      obtain ⟨d, e3, _, _⟩ := DataW.trod_int Try.underlying3 h3
      obtain ⟨e, e4, _, _⟩ := DataW.trod_int Try.underlying3 h4
      obtain ⟨ys, n2, _, _, _, hy, hg⟩ := DataW.trod_array Try.underlying23 h5
      match ys, hy with
      | [y0, y1, y2, y3], _ =>
        have g0 := hg 0 (by decide)
        have g1 := hg 1 (by decide)
        have g2 := hg 2 (by decide)
        have g3 := hg 3 (by decide)
        simp only [cellsF, Nat.mul_one, List.drop_zero, List.take_succ_cons, List.take_zero, List.drop_succ_cons, List.getElem?_cons_zero, List.getElem?_cons_succ] at g0 g1 g2 g3
        obtain ⟨v0, f0, _, w0⟩ := trod_float Try.underlying22 g0
        obtain ⟨v1, f1, _, w1⟩ := trod_float Try.underlying22 g1
        obtain ⟨v2, f2, _, w2⟩ := trod_float Try.underlying22 g2
        obtain ⟨v3, f3, _, w3⟩ := trod_float Try.underlying22 g3
        simp only [List.cons.injEq, and_true] at e0 e1 e2 e3 e4 f0 f1 f2 f3
        subst e0 e1 e2 e3 e4 f0 f1 f2 f3
        exact ⟨a, b, c, d, e, v0, v1, v2, v3, wff w0, wff w1, wff w2, wff w3, rfl⟩
theorem params_ok : ∀ t ∈ Try.f3.params.toList, Try.prog.readableRec t = true ∧ t < Try.prog.types.size := by
  rw [Try.params3]
  intro t ht
  simp at ht
  rcases ht with rfl | rfl | rfl <;> exact ⟨by kernel_rfl, of_decide_eq_true (by kernel_rfl)⟩
set_option maxRecDepth 100000 in
theorem contract (H : Type) (enc : TypeId × Value → H) (W : World) (base : Nat) (args : Array Value) (ds gs : List (DataW H)) (before : List MemPlace)
    (hval : ∀ (j : Nat) t v, Try.f3.params[j]? = some t → args[j]? = some v → Value.okWide Try.prog W .any base t v)
    (hW : DataW.Whole enc Try.prog Try.f3.params.toList Rows.frameSealsSpec.vars false W args.toList ds gs before) :
    Calls Try.prog 3 args W fun e W' => ∃ v, e = .returned v ∧ Rows.frameSealsSpec.post enc Try.prog Try.f3 false true false false W args v W' := by
  have hW' := hW
  obtain ⟨p, q, hA0, hV, rfl, hfz, hnd⟩ := hW
  have hA : DataW.TrodAll enc Try.prog W 0 (fun _ => true) true Try.f3.params.toList args.toList ds p := hA0
  rw [Try.params3] at hA hval
  obtain ⟨v0, vs0, d0, ds0, p0, q0, hargs, rfl, rfl, h0, r0⟩ := trodAll_cons hA
  obtain ⟨v1, vs1, d1, ds1, p1, q1, rfl, rfl, rfl, h1, r1⟩ := trodAll_cons r0
  obtain ⟨v2, vs2, d2, ds2, p2, q2, rfl, rfl, rfl, h2, r2⟩ := trodAll_cons r1
  obtain ⟨v3, vs3, d3, ds3, p3, q3, rfl, rfl, rfl, h3, r3⟩ := trodAll_cons r2
  obtain ⟨rfl, rfl, rfl⟩ := trodAll_nil r3
  obtain rfl : args = #[v0, v1, v2, v3] := by cases args; simp_all
  obtain ⟨rfl, rfl⟩ := trodVars_none hV
  obtain ⟨c0, rfl, _⟩ := okWide_struct Try.underlying25 (hval 0 25 v0 rfl rfl)
  obtain ⟨c1, rfl, _⟩ := okWide_array Try.underlying27 (hval 1 27 v1 rfl rfl)
  obtain ⟨fu0, hf0⟩ := h0
  obtain ⟨fu1, hf1⟩ := h1
  obtain ⟨st, lo, li, nu, cl, x0, x1, x2, x3, b0, b1, b2, b3, hc0⟩ := frame_of hf0
  obtain ⟨l, hl, hlt, hc1⟩ := block_of hf1
  obtain ⟨at_, rfl, rfl, rfl, ha⟩ := open_int Try.underlying5 (hval 2 5 v2 rfl rfl) h2
  obtain ⟨by_, rfl, rfl, rfl, hb⟩ := open_int Try.underlying5 (hval 3 5 v3 rfl rfl) h3
  clear hA0 hA
  simp only [List.append_nil] at hW'
  have ha' := wf8 ha
  have hb' := wf8 hb
  have e0 : Value.agg c0 = .agg #[.int .i64 st, .int .i64 lo, .int .i64 li, .int .i64 nu, .int .i64 cl, .float .f32 x0, .float .f32 x1, .float .f32 x2, .float .f32 x3] := by
    congr 1
    exact Array.toList_inj.1 (by simpa [Value.cells] using hc0)
  have e1 : Value.agg c1 = .agg (l.map byt).toArray := by
    congr 1
    exact Array.toList_inj.1 (by simpa [Value.cells] using hc1)
  have walk : Calls Try.prog 3 #[.agg c0, .agg c1, .int .u8 at_, .int .u8 by_] W fun e w' => e = .returned (.bool true) ∧ Below W.heap.size W w' := by
    rw [e0, e1]
    by_cases h : KeyOk st lo li nu ∧ 0 ≤ cl ∧ cl ≤ 1099511627776
    · obtain ⟨⟨⟨k0, k1⟩, ⟨k2, k3⟩, ⟨k4, k5⟩, k6, k7⟩, k8, k9⟩ := h
      obtain ⟨st, rfl⟩ := Int.eq_ofNat_of_zero_le k0
      obtain ⟨lo, rfl⟩ := Int.eq_ofNat_of_zero_le k2
      obtain ⟨li, rfl⟩ := Int.eq_ofNat_of_zero_le k4
      obtain ⟨nu, rfl⟩ := Int.eq_ofNat_of_zero_le k6
      obtain ⟨cl, rfl⟩ := Int.eq_ofNat_of_zero_le k8
      obtain ⟨at_, rfl⟩ := Int.eq_ofNat_of_zero_le ha'.1
      obtain ⟨by_, rfl⟩ := Int.eq_ofNat_of_zero_le hb'.1
      exact walk_yes st lo li nu cl x0 x1 x2 x3 ⟨by show st ≤ _; omega, by show lo ≤ _; omega, by show li ≤ _; omega, by show nu ≤ _; omega, by show cl ≤ _; omega, b0, b1, b2, b3⟩ l hl hlt at_ by_ (by omega) (by omega) W
    · exact walk_no st lo li nu cl x0 x1 x2 x3 b0 b1 b2 b3 l hl hlt at_ by_ W h
  refine walk.mono fun e W' ⟨he, hb⟩ => ⟨_, he, ?_⟩
  exact post_true laidOut params_ok rfl (by kernel_rfl) Try.underlying4 hW' rfl hb

set_option maxRecDepth 100000 in
theorem lifted (os : Os) (started : os.Started) (H : Type) (enc : TypeId × Value → H) :
    ReturnsInHanded {} Try.checked os 3 .any (Rows.frameSealsSpec.pre6 enc Try.prog Try.f3 Rows.frameSealsRow.domain false) (Rows.frameSealsSpec.post enc Try.prog Try.f3 false true false false) := by
  refine returnsInHanded_of_change (C := Try.checked) own started (by kernel_rfl) Try.func3
    (ChangeSpec.witness6 (enc := enc) (C := Try.checked) false ⟨#[], #[.agg #[.int .i64 0, .int .i64 0, .int .i64 0, .int .i64 0, .int .i64 0, .float .f32 0, .float .f32 0, .float .f32 0, .float .f32 0], .agg (Array.replicate 40 (.int .u8 0)), .int .u8 0, .int .u8 0], []⟩ 8 (by kernel_rfl) (by kernel_rfl) (by kernel_rfl) (by kernel_rfl)) ?_
  intro W base args ds gs before hval hW _ _
  exact contract H enc W base args ds gs before hval hW

theorem proved : Rows.FrameSealsSaid :=
  OpenClaim.holds_of_wide 3 Try.f3 rfl rfl rfl rfl rfl rfl rfl ⟨rfl, rfl, rfl, rfl, rfl⟩ rfl rfl rfl rfl rfl (by kernel_rfl) Try.func3 (by kernel_rfl)
    (of_decide_eq_true (by kernel_rfl)) (by unfold Func.isWrapper; first | (rw [if_pos (by decide +kernel)]; kernel_rfl) | (rw [if_neg (by decide +kernel)]; exact ⟨rfl, rfl⟩))
    (fun os started H enc _ => lifted os started H enc)
#print axioms proved
end Go.Proofs.Ytjahaljdfpengaa.seals
