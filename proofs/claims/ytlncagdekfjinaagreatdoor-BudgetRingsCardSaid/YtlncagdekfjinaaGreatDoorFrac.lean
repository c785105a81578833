/- Fractions in memory; under, build, cancel, ratio. -/
import Derived.Test.YtlncagdekfjinaaGreatDoorCommon
import Derived.Test.YtlncagdekfjinaaGreatDoorFracM
import Derived.Test.YtlncagdekfjinaaGreatDoorMul
import Derived.Test.YtlncagdekfjinaaGreatDoorMem
namespace Go.Proofs.YtlncagdekfjinaaGreatDoor
open Go.RowKit Go.Sort Dg Fr
def BotAt (w : World) (b : Value) (d : Nat) : Prop :=
  (d = 1 ∧ b = .slice none 0 0) ∨ (d ≠ 1 ∧ ∃ a c, b = .slice (some a) (nl d) c ∧ DigsAt w (some a) (nl d) c d)
theorem BotAt.mono {w w' : World} {b : Value} {d : Nat} (h : BotAt w b d) (hb : Below w.heap.size w w') : BotAt w' b d := by
  rcases h with h | ⟨h, a, c, e, hd⟩
  · exact .inl h
  · exact .inr ⟨h, a, c, e, hd.mono hb⟩
def FracAt (w : World) (v : Value) (q : Rat) : Prop :=
  ∃ a c ab nb cb, v = .agg #[.bool (neg q), .slice a (nl (top q)) c, .slice ab nb cb] ∧ DigsAt w a (nl (top q)) c (top q) ∧ BotAt w (.slice ab nb cb) q.den
theorem FracAt.mono {w w' : World} {v : Value} {q : Rat} (h : FracAt w v q) (hb : Below w.heap.size w w') : FracAt w' v q := by
  obtain ⟨a, c, ab, nb, cb, e, hd, hB⟩ := h
  exact ⟨a, c, ab, nb, cb, e, hd.mono hb, hB.mono hb⟩
def NoWord (cs : Array Value) : Prop := ∀ (i : Nat) (n : Int), cs[i]? ≠ some (.int .u64 n)
theorem DigsAt.filled {w X : World} {a : Option Addr} {m cap Y r : Nat} {t t' : TypeId} {cs : Array Value} {vs : List Value} (h : DigsAt w a m cap Y) (hB : Box w r t cs) (hn : NoWord cs) (hX : Filled r t' vs w X) : DigsAt X a m cap Y :=
  ⟨h.lt, h.fit, fun hm => by
    obtain ⟨b, off, e, hlt, hc⟩ := h.cells hm
    refine ⟨b, off, e, Nat.lt_of_lt_of_le hlt hX.size, fun i hi => ?_⟩
    have h1 := hc i hi
    have hbr : b ≠ r := by
      rintro rfl
      rw [cell_of_row w b (off + i) cs t _ hB] at h1
      exact hn _ _ h1
    exact (World.cell?_of_block (w := w) (a := ⟨b, off + i, none⟩) (hX.other b hbr)).trans h1⟩
theorem FracAt.filled {w X : World} {v : Value} {q : Rat} {r : Nat} {t t' : TypeId} {cs : Array Value} {vs : List Value} (h : FracAt w v q) (hB : Box w r t cs) (hn : NoWord cs) (hX : Filled r t' vs w X) : FracAt X v q := by
  obtain ⟨a, c, ab, nb, cb, e, hd, hb⟩ := h
  refine ⟨a, c, ab, nb, cb, e, hd.filled hB hn hX, ?_⟩
  rcases hb with hb | ⟨hd1, a', c', e', hd'⟩
  · exact .inl hb
  · exact .inr ⟨hd1, a', c', e', hd'.filled hB hn hX⟩
theorem zF3_no : NoWord #[.bool false, .slice none 0 0, .slice none 0 0] := by
  intro i n h
  rcases i with _ | _ | _ | i <;> simp at h
theorem frac_one (s : Bool) (a b : Option Addr) (n c m d : Nat) : ∀ v ∈ [Value.bool s, .slice a n c, .slice b m d], v.oneCell' = true := by
  intro v hv
  simp only [List.mem_cons, List.mem_nil_iff, or_false] at hv
  rcases hv with rfl | rfl | rfl <;> rfl
theorem infoF : (Tryz.prog.info? 97).map (·.size) = some 3 := by kernel_rfl
abbrev zF3 : Array Value := #[.bool false, .slice none 0 0, .slice none 0 0]
def GivesF (w : World) (q : Rat) (e : Ending) (w' : World) : Prop := ∃ v, e = .returned v ∧ FracAt w' v q ∧ Below w.heap.size w w'
def Gives2' (w : World) (q r : Nat) (e : Ending) (w' : World) : Prop :=
  ∃ a1 c1 a2 c2, e = .returned (.tuple #[.slice a1 (nl q) c1, .slice a2 (nl r) c2]) ∧ DigsAt w' a1 (nl q) c1 q ∧ DigsAt w' a2 (nl r) c2 r ∧ Below w.heap.size w w'
abbrev zeroF : Value := .agg #[.bool false, .slice none 0 0, .slice none 0 0]
theorem FracAt.zero (w : World) : FracAt w zeroF 0 := ⟨none, 0, none, 0, 0, rfl, DigsAt.zero _ _ _, .inl ⟨rfl, rfl⟩⟩
theorem under_one (s : Bool) (t : Value) (w : World) : Calls Tryz.prog 125 #[.agg #[.bool s, t, .slice none 0 0]] w (Gives w 1) := by
  have hnil := fun w (a : Option Addr) n c => Lib.run_eql_slice_nil (P := Tryz.prog) w 95 167 a n c 0 0 Tryz.underlying95
  go_enter Tryz.func125, Tryz.ntmps125
  go_wp2
  go_ret
  have := one_lies (w.alloc (.cells #[.bool s, t, .slice none 0 0] 97))
  rw [show (w.alloc (.cells #[.bool s, t, .slice none 0 0] 97)).heap.size = w.heap.size + 1 by simp] at this
  exact ⟨_, _, by rw [nl_one]; rfl, by rw [nl_one]; exact this, ((Below.refl _ _).alloc (Nat.le_refl _) _).alloc (by simp) _⟩
theorem under_more (s : Bool) (t : Value) (a : Addr) (c d : Nat) (w : World) (h : DigsAt w (some a) (nl d) c d) : Calls Tryz.prog 125 #[.agg #[.bool s, t, .slice (some a) (nl d) c]] w (Gives w d) := by
  have H := Lib.hid h
  clear h
  have hnil := fun w (a : Option Addr) n c => Lib.run_eql_slice_nil (P := Tryz.prog) w 95 167 a n c 0 0 Tryz.underlying95
  go_enter Tryz.func125, Tryz.ntmps125
  go_wp2
  go_ret
  have hb : Below w.heap.size w (w.alloc (.cells #[.bool s, t, .slice (some a) (nl d) c] 97)) := (Below.refl _ _).alloc (Nat.le_refl _) _
  exact ⟨_, _, rfl, H.out.mono hb, hb⟩
theorem under_any {w : World} {v : Value} {q : Rat} (h : FracAt w v q) : Calls Tryz.prog 125 #[v] w (Gives w q.den) := by
  obtain ⟨a, c, ab, nb, cb, rfl, _, hB⟩ := h
  rcases hB with ⟨hd, e⟩ | ⟨_, a', c', e, hd⟩ <;> rw [e]
  · rw [hd]; exact under_one _ _ w
  · exact under_more _ _ a' c' _ w hd
theorem build_zero (s : Bool) (a : Option Addr) (c : Nat) (b : Value) (w : World) :
    Calls Tryz.prog 126 #[.bool s, .slice a 0 c, b] w (GivesF w 0) := by
  go_enter Tryz.func126, Tryz.ntmps126
  go_wp2
  refine bodyPost_ret (v := zeroF) (by simp [results, Tryz.results126, go_sem]) rfl ⟨zeroF, rfl, FracAt.zero _, ?_⟩
  go_grown
theorem frac_at {w : World} {s : Bool} {n d : Nat} {a : Option Addr} {c : Nat} {ab : Option Addr} {nb cb : Nat} (hn : n ≠ 0) (hd : d ≠ 0) (hc : Nat.Coprime n d) (h : DigsAt w a (nl n) c n) (hb : BotAt w (.slice ab nb cb) d) :
    FracAt w (.agg #[.bool s, .slice a (nl n) c, .slice ab nb cb]) (frac s n d) := by
  refine ⟨a, c, ab, nb, cb, ?_, ?_, ?_⟩
  · rw [frac_top hd hc, frac_neg hd hc hn]
  · rw [frac_top hd hc]; exact h
  · rw [(frac_red hd hc).2]; exact hb
def BotIn (w : World) (b : Value) (d : Nat) : Prop := (d = 1 ∧ b = .slice none 0 0) ∨ (d ≠ 0 ∧ ∃ a c, b = .slice a (nl d) c ∧ DigsAt w a (nl d) c d)
theorem build_any (s : Bool) (a : Option Addr) (c n d : Nat) (b : Value) (w : World) (h : DigsAt w a (nl n) c n) (hb : BotIn w b d) (hc : n = 0 ∨ Nat.Coprime n d) :
    Calls Tryz.prog 126 #[.bool s, .slice a (nl n) c, b] w (GivesF w (frac s n d)) := by
  by_cases hn : n = 0
  · subst hn
    rw [frac_zero, nl_zero]
    exact build_zero s a c b w
  have hc := hc.resolve_left hn
  have tn := eq_f (nl_pos hn)
  rcases hb with ⟨hd, rfl⟩ | ⟨hd, a', c', rfl, hb⟩
  · subst hd
    have H := Lib.hid h
    have HC := Lib.hid hc
    have H1 := Lib.hid (fun W : World => isOne_any none 0 0 W (DigsAt.zero W none 0))
    rw [nl_zero] at H1
    clear h hc
    go_enter Tryz.func126, Tryz.ntmps126
    go_wp2_with (first | (go_at_call 172; refine (H1.out _).mono ?_; rintro e w' ⟨rfl, rfl⟩))
    refine bodyPost_ret (v := .agg #[.bool s, .slice a (nl n) c, .slice none 0 0]) (by simp [results, Tryz.results126, go_sem]) rfl ⟨_, rfl, ?_, ?_⟩
    · exact frac_at hn (by decide) HC.out (H.out.mono (by go_grown)) (.inl ⟨rfl, rfl⟩)
    · go_grown
  · have H := Lib.hid h
    have HD := Lib.hid hb
    have HC := Lib.hid hc
    have H1 := Lib.hid (fun W (hW : Below w.heap.size w W) => isOne_any a' c' d W (hb.mono hW))
    by_cases h1 : d = 1
    · subst h1
      have d1 : decide (1 = 1) = true := rfl
      clear h hb hc
      go_enter Tryz.func126, Tryz.ntmps126
      go_wp2_with fail
      refine (H1.out _ (by go_grown)).mono ?_
      rintro e w' ⟨rfl, rfl⟩
      go_wp2_with fail
      refine bodyPost_ret (v := .agg #[.bool s, .slice a (nl n) c, .slice none 0 0]) (by simp [results, Tryz.results126, go_sem]) rfl ⟨_, rfl, ?_, ?_⟩
      · exact frac_at hn (by decide) HC.out (H.out.mono (by go_grown)) (.inl ⟨rfl, rfl⟩)
      · go_grown
    · have d1 : decide (d = 1) = false := by simpa using h1
      obtain ⟨b0, o0, rfl, _⟩ := hb.cells (Nat.ne_of_gt (nl_pos hd))
      rw [d1] at H1
      clear h hb hc d1
      go_enter Tryz.func126, Tryz.ntmps126
      go_wp2_with fail
      refine (H1.out _ (by go_grown)).mono ?_
      rintro e w' ⟨rfl, rfl⟩
      go_wp2_with fail
      refine bodyPost_ret (v := .agg #[.bool s, .slice a (nl n) c, .slice (some ⟨b0, o0, none⟩) (nl d) c']) (by simp [results, Tryz.results126, go_sem]) rfl ⟨_, rfl, ?_, ?_⟩
      · exact frac_at hn hd HC.out (H.out.mono (by go_grown)) (.inr ⟨h1, _, _, rfl, HD.out.mono (by go_grown)⟩)
      · go_grown
theorem cancel_any (a b : Option Addr) (ca cb x y : Nat) (w : World) (hx : DigsAt w a (nl x) ca x) (hy : DigsAt w b (nl y) cb y) (hnx : nl x ≤ 1073741800) (hny : nl y ≤ 1073741800) (hy0 : y ≠ 0) (hE : Env w) :
    Calls Tryz.prog 124 #[.slice a (nl x) ca, .slice b (nl y) cb] w (Gives2' w (x / Nat.gcd x y) (y / Nat.gcd x y)) := by
  have HC := Lib.hid (common_any a b ca cb x y w hx hy hnx hny hE)
  have hg0 : Nat.gcd x y ≠ 0 := fun e => hy0 (Nat.eq_zero_of_gcd_eq_zero_right e)
  have hgl : nl (Nat.gcd x y) ≤ 1073741800 := Nat.le_trans (nl_mono (Nat.gcd_le_right x (by omega))) hny
  have HO := Lib.hid (fun M g cg (hM : Below w.heap.size w M) (hg : DigsAt M g (nl (Nat.gcd x y)) cg (Nat.gcd x y)) => over_any a g ca cg x (Nat.gcd x y) M (hx.mono hM) hg (by omega) (by omega) hg0 (hE.mono hM))
  have HO2 := Lib.hid (fun M g cg (hM : Below w.heap.size w M) (hg : DigsAt M g (nl (Nat.gcd x y)) cg (Nat.gcd x y)) => over_any b g cb cg y (Nat.gcd x y) M (hy.mono hM) hg (by omega) (by omega) hg0 (hE.mono hM))
  have HX := Lib.hid hx
  have HY := Lib.hid hy
  clear hx hy hE hg0 hy0 hnx hny
  generalize Nat.gcd x y = g at *
  go_enter Tryz.func124, Tryz.ntmps124
  go_wp2_with fail
  refine HC.out.mono ?_
  rintro e w1 ⟨a1, c1, rfl, hd1, hb1⟩
  have HD1 := Lib.hid hd1
  have HB1 := Lib.hid hb1
  have H1 := Lib.hid (isOne_any a1 c1 g w1 hd1)
  clear hd1 hb1
  by_cases h1 : g = 1
  · have d1 : decide (g = 1) = true := by simpa using h1
    rw [d1] at H1
    have H1' := Lib.hid h1
    clear d1 h1
    go_wp2_with fail
    refine H1.out.mono ?_
    rintro e w' ⟨rfl, rfl⟩
    go_wp2
    go_ret2
    rw [H1'.out, Nat.div_one, Nat.div_one]
    exact ⟨_, _, _, _, rfl, HX.out.mono HB1.out, HY.out.mono HB1.out, HB1.out⟩
  · have d1 : decide (g = 1) = false := by simpa using h1
    rw [d1] at H1
    clear d1 h1
    go_wp2_with fail
    refine H1.out.mono ?_
    rintro e w' ⟨rfl, rfl⟩
    go_wp2_with fail
    refine (HO.out _ _ _ HB1.out HD1.out).mono ?_
    rintro e w2 ⟨a2, c2, rfl, hd2, hb2⟩
    have HD2 := Lib.hid hd2
    have HB2 := Lib.hid hb2
    clear hd2 hb2
    go_wp2_with fail
    refine (HO2.out _ _ _ (HB1.out.trans (HB2.out.mono HB1.out.size)) (HD1.out.mono HB2.out)).mono ?_
    rintro e w3 ⟨a3, c3, rfl, hd3, hb3⟩
    go_wp2
    go_ret2
    have k := HB1.out.trans (HB2.out.mono HB1.out.size)
    exact ⟨_, _, _, _, rfl, HD2.out.mono hb3, hd3, k.trans (hb3.mono k.size)⟩
theorem ratio_any (s : Bool) (a b : Option Addr) (ca cb x y : Nat) (w : World) (hx : DigsAt w a (nl x) ca x) (hy : DigsAt w b (nl y) cb y) (hnx : nl x ≤ 1073741800) (hny : nl y ≤ 1073741800) (hy0 : y ≠ 0) (hE : Env w) :
    Calls Tryz.prog 120 #[.bool s, .slice a (nl x) ca, .slice b (nl y) cb] w (GivesF w (frac s x y)) := by
  have HC := Lib.hid (cancel_any a b ca cb x y (w.alloc (.cells #[.bool false, .slice none 0 0, .slice none 0 0] 97)) (hx.mono (by go_grown)) (hy.mono (by go_grown)) hnx hny hy0 (hE.mono (by go_grown)))
  obtain ⟨f1, f2, f3⟩ := frac_lowest (s := s) (n := x) hy0
  have F1 := Lib.hid f1
  have F2 := Lib.hid f2
  have F3 := Lib.hid f3
  rw [← f1]
  clear f1 f2 f3 hx hy hE
  go_enter Tryz.func120, Tryz.ntmps120
  go_wp2_with fail
  refine HC.out.mono ?_
  rintro e w1 ⟨a1, c1, a2, c2, rfl, hd1, hd2, hb1⟩
  have hb0 : Below w.heap.size w w1 := ((Below.refl w.heap.size w).alloc (Nat.le_refl _) (.cells #[.bool false, .slice none 0 0, .slice none 0 0] 97)).trans (hb1.mono (by simp))
  have g0 : w.heap.size < w1.heap.size := by have := hb1.size; simp at this; omega
  have HR := Lib.hid ((Box.new w 97 zF3).below hb1 (by simp))
  have HB := Lib.hid (build_any s a1 c1 _ _ _ w1 hd1 (.inr ⟨F3.out, a2, c2, rfl, hd2⟩) (.inr F2.out))
  have HB0 := Lib.hid hb0
  clear hd1 hd2 hb1 hb0
  go_wp2_with fail
  refine HB.out.mono ?_
  rintro e w2 ⟨v, rfl, hv, hb2⟩
  have HV := Lib.hid hv
  obtain ⟨a3, c3, ab, nb, cb, rfl, _, _⟩ := hv
  have HR2 := Lib.hid (HR.out.below hb2 g0)
  have HB2 := Lib.hid (HB0.out.trans (hb2.mono HB0.out.size))
  have hw := HB0.out.size
  clear hb2 HR HB0
  go_wp2_with (first | (refine wpList_box_store rfl 97 _ _ rfl w.heap.size rfl [_, _, _] rfl _ _ HR2.out rfl infoF (frac_one _ _ _ _ _ _ _) ?_; intro X hX))
  exact bodyPost_ret (v := _) (results_cell Tryz.results120 _ _ _ _ rfl (box_load _ hX.box Tryz.underlying97 rfl infoF)) rfl ⟨_, rfl, HV.out.filled HR2.out zF3_no hX, HB2.out.trans (hX.below _ (Nat.le_refl _))⟩
end Go.Proofs.YtlncagdekfjinaaGreatDoor
