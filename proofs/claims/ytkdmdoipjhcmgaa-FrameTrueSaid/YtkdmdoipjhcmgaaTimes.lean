/- FrameTimes holds: for every list of checks, drift, life and clock the law returns true, and its arguments read as they read. No condition. -/
import Derived.Test.YtkdmdoipjhcmgaaLaw
import Derived.Test.YtkdmdoipjhcmgaaRtime
import Derived.Test.YtkdmdoipjhcmgaaRagree
import Derived.Deep.Slices
namespace Go.Proofs.Ytkdmdoipjhcmgaa.times
open Go.ChangeShapes Go.WideShapes Go.ChangeAt Go.RowKit

/-- The cells of checks, one behind the other. -/
def flat (l : List Ck) : List Value := l.flatMap fun c => [.int .i64 c.life, .int .i64 c.clock, .int .i64 c.lo, .int .i64 c.hi]
theorem flat_len (l : List Ck) : (flat l).length = l.length * 4 := by
  induction l with
  | nil => rfl
  | cons c l ih => simp [flat] at ih ⊢; omega
theorem flat_snoc (l : List Ck) (k : Nat) (h : k < l.length) : flat (l.take (k + 1)) = flat (l.take k) ++ [.int .i64 l[k].life, .int .i64 l[k].clock, .int .i64 l[k].lo, .int .i64 l[k].hi] := by
  unfold flat
  rw [List.take_succ_eq_append_getElem h, List.flatMap_append]
  rfl
theorem flat_at (l : List Ck) (i : Nat) (h : i < l.length) : (flat l)[i * 4]? = some (.int .i64 l[i].life) ∧ (flat l)[i * 4 + 1]? = some (.int .i64 l[i].clock) ∧ (flat l)[i * 4 + 2]? = some (.int .i64 l[i].lo) ∧ (flat l)[i * 4 + 3]? = some (.int .i64 l[i].hi) := by
  induction l generalizing i with
  | nil => exact absurd h (Nat.not_lt_zero _)
  | cons c l ih =>
    cases i with
    | zero => exact ⟨rfl, rfl, rfl, rfl⟩
    | succ i =>
      have := ih i (by simpa using h)
      have e : ∀ j, (flat (c :: l))[(i + 1) * 4 + j]? = (flat l)[i * 4 + j]? := fun j => by
        have h1 : flat (c :: l) = [.int .i64 c.life, .int .i64 c.clock, .int .i64 c.lo, .int .i64 c.hi] ++ flat l := rfl
        rw [h1, List.getElem?_append_right (by simp; omega)]
        congr 1
        simp
        omega
      have e0 := e 0
      simp only [Nat.add_zero] at e0
      rw [e0, e 1, e 2, e 3]
      simpa using this

theorem info_ck : (Try.prog.info? 56).map (fun i => (i.zero, i.size, i.bytes)) = some (some (.agg #[.int .i64 0, .int .i64 0, .int .i64 0, .int .i64 0]), 4, 32) := by kernel_rfl

theorem news4 (w : World) (a b c d : Int) (n : Nat) (hn : w.heap.size = n) : ∀ j u, ([.int .i64 a, .int .i64 b, .int .i64 c, .int .i64 d] : List Value)[j]? = some u →
    (w.alloc (.cells #[.int .i64 a, .int .i64 b, .int .i64 c, .int .i64 d] 56)).cell? ((⟨n, 0, none⟩ : Addr).add j) = some u := by
  subst hn
  intro j u hu
  rw [Addr.add_mid]
  exact (Box.new w 56 #[.int .i64 a, .int .i64 b, .int .i64 c, .int .i64 d]).at_ (by rw [Nat.zero_add]; simpa using hu)
/-- A row of checks that the call has made. -/
theorem own_cks {w : World} {base n : Nat} {v : Value} {l : List Ck} (h : w.ownsRow base 56 4 v n (flat l)) (hn : l.length = n) : ∃ a cap, v = .slice a n cap ∧ CksAt w w.heap.size a l := by
  rcases Nat.eq_zero_or_pos n with h0 | h0
  · subst h0
    have hl : l = [] := List.eq_nil_of_length_eq_zero hn
    subst hl
    rcases h.2 with ⟨rfl, _⟩ | ⟨g, cap, cur, rfl, _⟩
    · exact ⟨_, _, rfl, fun h => absurd h (Nat.lt_irrefl 0)⟩
    · exact ⟨_, _, rfl, fun h => absurd h (Nat.lt_irrefl 0)⟩
  · obtain ⟨g, cap, rfl, _, hlt⟩ := h.form h0
    refine ⟨_, _, rfl, fun _ => ⟨_, rfl, hlt, fun i hi => ?_⟩⟩
    obtain ⟨f0, f1, f2, f3⟩ := flat_at l i hi
    have hc := h.cells (g := g) rfl
    have c0 := hc _ _ f0
    have c1 := hc _ _ f1
    have c2 := hc _ _ f2
    have c3 := hc _ _ f3
    rw [Addr.add_mid] at c0 c1 c2 c3 ⊢
    exact ⟨c0, by simpa [Nat.add_assoc] using c1, by simpa [Nat.add_assoc] using c2, by simpa [Nat.add_assoc] using c3⟩

theorem time_n (a : Option Addr) (l : List Ck) (cap n : Nat) (hn : l.length = n) (drift life clock : Int) (w : World) (hl : CksAt w w.heap.size a l) (hm : n ≤ 9223372036854775807) :
    Calls Try.prog 18 #[.slice a n cap, .int .i64 drift, .int .i64 life, .int .i64 clock] w fun e w' =>
      e = .returned (.tuple #[rg (timeR l drift life clock).1 (timeR l drift life clock).2.1, .int .i64 (timeR l drift life clock).2.2]) ∧ Below w.heap.size w w' := by
  subst hn
  exact time_any a l cap drift life clock w hl hm
theorem refTime_n (a : Option Addr) (l : List Ck) (cap n : Nat) (hn : l.length = n) (drift life clock : Int) (w : World) (hl : CksAt w w.heap.size a l) (hm : n ≤ 9223372036854775807) :
    Calls Try.prog 19 #[.slice a n cap, .int .i64 drift, .int .i64 life, .int .i64 clock] w fun e w' =>
      e = .returned (.tuple #[rg (timeR l drift life clock).1 (timeR l drift life clock).2.1, .int .i64 (timeR l drift life clock).2.2]) ∧ Below w.heap.size w w' := by
  subst hn
  exact refTime_any a l cap drift life clock w hl hm
theorem agree_n (a : Option Addr) (l : List Ck) (cap n : Nat) (hn : l.length = n) (d : Int) (w : World) (hl : CksAt w w.heap.size a l) (hc : n ≤ cap) (hm : n ≤ 9223372036854775807) :
    Calls Try.prog 20 #[.slice a n cap, .int .i64 d] w (AgreePost l d w) := by
  subst hn
  exact agree_any a l cap d w hl hc hm
theorem refAgree_n (a : Option Addr) (l : List Ck) (cap n : Nat) (hn : l.length = n) (d : Int) (w : World) (hl : CksAt w w.heap.size a l) (hm : n ≤ 9223372036854775807) :
    Calls Try.prog 21 #[.slice a n cap, .int .i64 d] w (AgreePost l d w) := by
  subst hn
  exact refAgree_any a l cap d w hl hm

set_option maxHeartbeats 4000000 in
set_option maxRecDepth 100000 in
theorem walk_main (a : Option Addr) (cap n : Nat) (l : List Ck) (hn : l.length = n) (drift life clock : Int) (w : World) (hl : CksAt w w.heap.size a l) (hc : n ≤ cap) (h30 : n ≤ 30) :
    Calls Try.prog 5 #[.slice a n cap, .int .i64 drift, .int .i64 life, .int .i64 clock] w fun e w' => e = .returned (.bool true) ∧ Below w.heap.size w w' := by
  obtain ⟨i0, hi, hz0, hz1, hz2⟩ := info_parts info_ck
  have HN := Lib.hid hn
  clear hn
  go_enter Try.func5, Try.ntmps5
  go_wp2_with fail
  go_loopw [9, 28] (fun v i wr => ∃ k : Nat, k ≤ n ∧ i = .int .i64 k ∧ wr.ownsRow w.heap.size 56 4 v k (flat (l.take k)) ∧ Below w.heap.size w wr) (fun _ i _ => n - (intOf i).toNat)
  case atStart => exact ⟨0, Nat.zero_le _, rfl, World.ownsRow_nil .., Below.refl _ _⟩
  case round =>
    obtain ⟨k, hk, rfl, hown, hb⟩ := hrel
    by_cases hlt : k < n
    · have hkl : k < l.length := by rw [HN.out]; exact hlt
      obtain ⟨ad, rfl, hlt2, hcc⟩ := hl.mono hb (by omega)
      obtain ⟨c0, c1, c2, c3⟩ := hcc k hkl
      have HS := Lib.hid (flat_snoc l k hkl)
      clear hcc
      generalize l[k] = c at *
      obtain ⟨li, cl, lo, hi'⟩ := c
      simp only at c0 c1 c2 c3
      go_wp2_with (at_builtin; refine wpList_append_own _ rfl _ _ 51 rfl w.heap.size 56 i0 (.agg #[.int .i64 0, .int .i64 0, .int .i64 0, .int .i64 0]) 4 32 Try.underlying51 hi hz0 hz1 hz2 rfl (by decide) _ _ _ rfl ((hown.alloc _).alloc _) ⟨wr.heap.size + 1, 0, none⟩ 1 1 [.int .i64 li, .int .i64 cl, .int .i64 lo, .int .i64 hi'] rfl rfl ?c1 ?c2 ?c3 ?c4 ?c5 ?_)
      case c2 => exact ⟨rfl, rfl, rfl, rfl⟩
      case c3 => unfold maxLen; omega
      case c4 => omega
      case c5 => have := hb.size; omega
      intro v1 w2 hown2 hgr _
      have hb2 : Below w.heap.size w w2 := ((hb.alloc hb.size _).alloc (by have := hb.size; simp; omega) _).grown hgr (by have := hb.size; simp; omega) (fun j hj => (hown.lt j hj).1)
      clear hown hgr c0 c1 c2 c3
      go_wp2
      go_roundw
      case rel => exact ⟨k + 1, by omega, by go_num, by rw [HS.out]; exact hown2, hb2⟩
      case measure => simp [intOf]; omega
    · have hkn : k = n := by omega
      subst hkn
      have htk : l.take k = l := List.take_of_length_le (by rw [HN.out]; omega)
      rw [htk] at hown
      obtain ⟨a', cap', rfl, hl'⟩ := own_cks hown HN.out
      clear htk hown
      go_wp2_with fail
      refine (time_n a l cap k HN.out drift life clock _ ((hl.mono hb).more hb.size) (by omega)).mono ?_
      rintro e w1 ⟨rfl, hb1⟩
      have hlA := (hl.mono hb).more hb.size
      have hl1 := (hlA.mono hb1).more hb1.size
      have hl1' := (hl'.mono hb1).more hb1.size
      have hbb := hb.trans (hb1.mono hb.size)
      clear hb1 hlA hl' hb
      generalize hrr : timeR l drift life clock = r at *
      obtain ⟨r1, r2, r3⟩ := r
      have HR := Lib.hid hrr
      clear hrr
      have hX := Two.new w1 r1 r2
      have hX0 := hX.lt
      have hA1 : Below w1.heap.size w1 (w1.alloc (.cells #[.int .i64 r1, .int .i64 r2] 53)) := (Below.refl _ _).alloc (Nat.le_refl _) _
      have hl2' := (hl1'.mono hA1).more hA1.size
      have hl2 := (hl1.mono hA1).more hA1.size
      have hbb2 := hbb.trans (hA1.mono hbb.size)
      clear hl1 hl1' hbb hA1
      go_wp2_with fail
      refine (refTime_n a' l cap' k HN.out drift life clock _ hl2' (by omega)).mono ?_
      rintro e w2 ⟨rfl, hb2⟩
      rw [HR.out]
      have hX2 := hX.below hb2 hX0
      have hl3 := (hl2.mono hb2).more hb2.size
      have hl3' := (hl2'.mono hb2).more hb2.size
      have hbb3 := hbb2.trans (hb2.mono hbb2.size)
      have hxn := Nat.lt_of_lt_of_le hX0 hb2.size
      clear hX hX0 hl2 hl2' hbb2 hb2
      have hY := Two.new w2 r1 r2
      have hA2 : Below w2.heap.size w2 (w2.alloc (.cells #[.int .i64 r1, .int .i64 r2] 53)) := (Below.refl _ _).alloc (Nat.le_refl _) _
      have hX3 := hX2.below hA2 hxn
      have hl4 := (hl3.mono hA2).more hA2.size
      have hl4' := (hl3'.mono hA2).more hA2.size
      have hbb4 := hbb3.trans (hA2.mono hbb3.size)
      clear hX2 hl3 hl3' hbb3 hA2
      go_wp2_with fail
      refine (agree_n a l cap k HN.out drift _ hl4 hc (by omega)).mono ?_
      rintro e w3 ⟨⟨x1, x2, x3, rfl, hAg⟩, hb5⟩
      have hX4 := hX3.below hb5 (Nat.lt_of_lt_of_le hxn (by simp))
      have hY4 := hY.below hb5 hY.lt
      have hl5 := (hl4'.mono hb5).more hb5.size
      have hbb5 := hbb4.trans (hb5.mono hbb4.size)
      clear hX3 hY hl4 hl4' hbb4 hb5
      have HAg := Lib.hid hAg
      clear hAg
      go_wp2_with fail
      refine (refAgree_n a' l cap' k HN.out drift _ hl5 (by omega)).mono ?_
      rintro e w4 ⟨⟨y1, y2, y3, rfl, hAg2⟩, hb6⟩
      obtain ⟨rfl, rfl, rfl⟩ := HAg.out.same hAg2
      have hX5 := hX4.below hb6 hX4.lt
      have hY5 := hY4.below hb6 hY4.lt
      have hbb6 := hbb5.trans (hb6.mono hbb5.size)
      clear hX4 hY4 hl5 hbb5 hb6 hAg2
      have g0 := hX5.c0
      have g1 := hX5.c1
      have g2 := hY5.c0
      have g3 := hY5.c1
      go_wp2_with fail
      refine (awake_any _).mono ?_
      rintro e w5 ⟨rfl, hb7⟩
      go_wp2_with fail
      go_ret
      exact ⟨rfl, hbb6.trans (hb7.mono hbb6.size)⟩

theorem walk_long (a : Option Addr) (cap n : Nat) (drift life clock : Int) (w : World) (hm : n ≤ 9223372036854775807) (h30 : 30 < n) :
    Calls Try.prog 5 #[.slice a n cap, .int .i64 drift, .int .i64 life, .int .i64 clock] w fun e w' => e = .returned (.bool true) ∧ Below w.heap.size w w' := by
  go_enter Try.func5, Try.ntmps5
  go_wp2_with fail
  refine (awake_any _).mono ?_
  rintro e w5 ⟨rfl, hb7⟩
  go_wp2_with fail
  go_ret
  exact ⟨rfl, hb7⟩

theorem cellsInt : Try.prog.cellsOf 3 = 1 := by kernel_rfl
theorem cellsRange : Try.prog.cellsOf 53 = 2 := by kernel_rfl
theorem cellsCk : Try.prog.cellsOf 55 = 4 := by kernel_rfl
set_option maxRecDepth 100000 in
/-- What reads as a check is four whole numbers. -/
theorem ck_of {H : Type} {enc : TypeId × Value → H} {W : World} {n : Nat} {cs : List Value} {x : DataW H × List MemPlace} (h : DataW.trod enc Try.prog W 0 (fun _ => true) true n 55 cs = some x) :
    ∃ c : Ck, cs = [.int .i64 c.life, .int .i64 c.clock, .int .i64 c.lo, .int .i64 c.hi] := by
  obtain ⟨xs, n1, _, _, hlen, hx, hf⟩ := DataW.trod_struct Try.underlying55 h
  rw [cellsCk] at hlen
  match cs, hlen with
  | [c0, c1, c2, c3], _ =>
    match xs, hx with
    | [x0, x1, x2], _ =>
      have h0 : DataW.trod enc Try.prog W 0 (fun _ => true) true n1 3 (List.take (Try.prog.cellsOf 3) (List.drop 0 [c0, c1, c2, c3])) = [x0, x1, x2][0]? := hf 0 _ rfl
      have h1 : DataW.trod enc Try.prog W 0 (fun _ => true) true n1 3 (List.take (Try.prog.cellsOf 3) (List.drop 1 [c0, c1, c2, c3])) = [x0, x1, x2][1]? := hf 1 _ rfl
      have h2 : DataW.trod enc Try.prog W 0 (fun _ => true) true n1 53 (List.take (Try.prog.cellsOf 53) (List.drop 2 [c0, c1, c2, c3])) = [x0, x1, x2][2]? := hf 2 _ rfl
      simp only [cellsInt, cellsRange, List.drop_zero, List.take_succ_cons, List.take_zero, List.drop_succ_cons, List.getElem?_cons_zero, List.getElem?_cons_succ] at h0 h1 h2
      obtain ⟨a, e0, _, _⟩ := DataW.trod_int Try.underlying3 h0
      obtain ⟨b, e1, _, _⟩ := DataW.trod_int Try.underlying3 h1
      obtain ⟨ys, n2, _, _, _, hy, hg⟩ := DataW.trod_struct Try.underlying53 h2
      match ys, hy with
      | [y0, y1], _ =>
        have g0 : DataW.trod enc Try.prog W 0 (fun _ => true) true n2 3 (List.take (Try.prog.cellsOf 3) (List.drop 0 [c2, c3])) = [y0, y1][0]? := hg 0 _ rfl
        have g1 : DataW.trod enc Try.prog W 0 (fun _ => true) true n2 3 (List.take (Try.prog.cellsOf 3) (List.drop 1 [c2, c3])) = [y0, y1][1]? := hg 1 _ rfl
        simp only [cellsInt, List.drop_zero, List.take_succ_cons, List.take_zero, List.drop_succ_cons, List.getElem?_cons_zero, List.getElem?_cons_succ] at g0 g1
        obtain ⟨c, e2, _, _⟩ := DataW.trod_int Try.underlying3 g0
        obtain ⟨d, e3, _, _⟩ := DataW.trod_int Try.underlying3 g1
        simp only [List.cons.injEq, and_true] at e0 e1 e2 e3
        subst e0 e1 e2 e3
        exact ⟨⟨a, b, c, d⟩, rfl⟩

theorem add_two (a : Addr) (i j : Nat) (hj : 0 < j) : (a.add i).add j = ⟨(a.add i).block, (a.add i).off + j, none⟩ := by
  show (if j = 0 then a.add i else _) = _
  rw [if_neg (by omega)]
set_option maxRecDepth 100000 in
/-- An argument that is a list of checks. -/
theorem open_cks {H : Type} {enc : TypeId × Value → H} {W : World} {r : Reach} {b0 : Nat} {v : Value} {d : DataW H} {p : List MemPlace} (hval : Value.okWide Try.prog W r b0 50 v)
    (hd : DataW.Trod enc Try.prog W 0 (fun _ => true) true 50 v d p) : ∃ a len cap l, v = .slice a len cap ∧ l.length = len ∧ len ≤ cap ∧ len ≤ maxLen ∧ CksAt W W.heap.size a l := by
  obtain ⟨a0, len, cap, rfl⟩ := okWide_slice Try.underlying50 hval
  obtain ⟨fuel, hf⟩ := hd
  rcases Deep.open_slice Try.underlying50 hf with ⟨hcs, _⟩ | ⟨a, len', cap', m, n, D, Pl, hcs, _, hl, hm, hmm, _, hel⟩
  · simp [Value.cells] at hcs
    obtain ⟨rfl, rfl, rfl⟩ := hcs
    exact ⟨none, 0, 0, [], rfl, rfl, Nat.le_refl _, Nat.zero_le _, fun h => absurd h (Nat.lt_irrefl 0)⟩
  · simp [Value.cells] at hcs
    obtain ⟨rfl, rfl, rfl⟩ := hcs
    simp only [if_true] at hmm
    have key : ∀ i, i < len → ∃ c : Ck, CkAt W (a.add (i * 4)) c := fun i hi => by
      obtain ⟨cs', hc, ht⟩ := hel i (by omega)
      obtain ⟨c, rfl⟩ := ck_of ht
      rw [cellsCk] at hc
      obtain ⟨_, _, hat⟩ := World.cells?_some hc
      have h0 := hat 0 (by omega)
      have h1 := hat 1 (by omega)
      have h2 := hat 2 (by omega)
      have h3 := hat 3 (by omega)
      rw [add_two _ _ _ (by omega)] at h1 h2 h3
      exact ⟨c, h0, h1, h2, h3⟩
    let l : List Ck := List.ofFn fun i : Fin len => Classical.choose (key i i.2)
    have hlen : l.length = len := List.length_ofFn
    refine ⟨some a, len, cap, l, rfl, hlen, hl, Nat.le_trans hl hm, fun h0 => ⟨a, rfl, ?_, fun i hi => ?_⟩⟩
    · rw [hlen] at h0
      obtain ⟨c, hc⟩ := key 0 h0
      have := block_lt_of_cell hc.life
      rwa [add_block] at this
    · have e : l[i] = Classical.choose (key i (by rw [← hlen]; exact hi)) := List.getElem_ofFn ..
      rw [e]
      exact Classical.choose_spec (key i (by rw [← hlen]; exact hi))
theorem params_ok : ∀ t ∈ Try.f5.params.toList, Try.prog.readableRec t = true ∧ t < Try.prog.types.size := by
  rw [Try.params5]
  intro t ht
  simp at ht
  rcases ht with rfl | rfl <;> exact ⟨by kernel_rfl, of_decide_eq_true (by kernel_rfl)⟩
set_option maxRecDepth 100000 in
theorem contract (H : Type) (enc : TypeId × Value → H) (W : World) (base : Nat) (args : Array Value) (ds gs : List (DataW H)) (before : List MemPlace)
    (hval : ∀ (j : Nat) t v, Try.f5.params[j]? = some t → args[j]? = some v → Value.okWide Try.prog W .any base t v)
    (hW : DataW.Whole enc Try.prog Try.f5.params.toList Rows.frameTimesSpec.vars false W args.toList ds gs before) :
    Calls Try.prog 5 args W fun e W' => ∃ v, e = .returned v ∧ Rows.frameTimesSpec.post enc Try.prog Try.f5 false true false false W args v W' := by
  have hW' := hW
  obtain ⟨p, q, hA0, hV, rfl, hfz, hnd⟩ := hW
  have hA : DataW.TrodAll enc Try.prog W 0 (fun _ => true) true Try.f5.params.toList args.toList ds p := hA0
  rw [Try.params5] at hA hval
  obtain ⟨v0, vs0, d0, ds0, p0, q0, hargs, rfl, rfl, h0, r0⟩ := trodAll_cons hA
  obtain ⟨v1, vs1, d1, ds1, p1, q1, rfl, rfl, rfl, h1, r1⟩ := trodAll_cons r0
  obtain ⟨v2, vs2, d2, ds2, p2, q2, rfl, rfl, rfl, h2, r2⟩ := trodAll_cons r1
  obtain ⟨v3, vs3, d3, ds3, p3, q3, rfl, rfl, rfl, h3, r3⟩ := trodAll_cons r2
  obtain ⟨rfl, rfl, rfl⟩ := trodAll_nil r3
  obtain rfl : args = #[v0, v1, v2, v3] := by cases args; simp_all
  obtain ⟨rfl, rfl⟩ := trodVars_none hV
  obtain ⟨a, n, cap, l, rfl, hl1, hcap, hm1, hl⟩ := open_cks (hval 0 50 v0 rfl rfl) h0
  obtain ⟨drift, rfl, rfl, rfl, _⟩ := open_int Try.underlying3 (hval 1 3 v1 rfl rfl) h1
  obtain ⟨life, rfl, rfl, rfl, _⟩ := open_int Try.underlying3 (hval 2 3 v2 rfl rfl) h2
  obtain ⟨clock, rfl, rfl, rfl, _⟩ := open_int Try.underlying3 (hval 3 3 v3 rfl rfl) h3
  clear hA0 hA
  simp only [List.append_nil] at hW'
  have walk : Calls Try.prog 5 #[.slice a n cap, .int .i64 drift, .int .i64 life, .int .i64 clock] W fun e w' => e = .returned (.bool true) ∧ Below W.heap.size W w' := by
    by_cases h : n ≤ 30
    · exact walk_main a cap n l hl1 drift life clock W hl hcap h
    · exact walk_long a cap n drift life clock W hm1 (by omega)
  refine walk.mono fun e W' ⟨he, hb⟩ => ⟨_, he, ?_⟩
  exact post_true laidOut params_ok rfl (by kernel_rfl) Try.underlying4 hW' rfl hb

set_option maxRecDepth 100000 in
theorem lifted (os : Os) (started : os.Started) (H : Type) (enc : TypeId × Value → H) :
    ReturnsInHanded {} Try.checked os 5 .any (Rows.frameTimesSpec.pre6 enc Try.prog Try.f5 Rows.frameTimesRow.domain false) (Rows.frameTimesSpec.post enc Try.prog Try.f5 false true false false) := by
  refine returnsInHanded_of_change (C := Try.checked) own started (by kernel_rfl) Try.func5
    (ChangeSpec.witness6 (enc := enc) (C := Try.checked) false ⟨#[], #[.slice none 0 0, .int .i64 0, .int .i64 0, .int .i64 0], []⟩ 8 (by kernel_rfl) (by kernel_rfl) (by kernel_rfl) (by kernel_rfl)) ?_
  intro W base args ds gs before hval hW _ _
  exact contract H enc W base args ds gs before hval hW

theorem proved : Rows.FrameTimesSaid :=
  OpenClaim.holds_of_wide 5 Try.f5 rfl rfl rfl rfl rfl rfl rfl ⟨rfl, rfl, rfl, rfl, rfl⟩ rfl rfl rfl rfl rfl (by kernel_rfl) Try.func5 (by kernel_rfl)
    (of_decide_eq_true (by kernel_rfl)) (by unfold Func.isWrapper; first | (rw [if_pos (by decide +kernel)]; kernel_rfl) | (rw [if_neg (by decide +kernel)]; exact ⟨rfl, rfl⟩))
    (fun os started H enc _ => lifted os started H enc)
#print axioms proved
end Go.Proofs.Ytkdmdoipjhcmgaa.times
