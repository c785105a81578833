/- size, Int, New, sumSigned, Zero, Sign. -/
import Derived.Test.YtkkgibnoggickaaGreatDoorFrac
import Derived.Test.YtkkgibnoggickaaGreatDoorAdd
namespace Go.Proofs.YtkkgibnoggickaaGreatDoor
open Go.RowKit Go.Sort Dg Fr

theorem size_any (n : Int) (h0 : -9223372036854775808 ≤ n) (h1 : n ≤ 9223372036854775807) (w : World) :
    Calls Tryz.prog 103 #[.int .i64 n] w (Gives w n.natAbs) := by
  have hB : n.natAbs < B := by unfold B; omega
  have HW := Lib.hid (word_any n.natAbs hB w)
  clear hB
  by_cases hn : n < 0
  · have e : Value.int .u64 (IntKind.u64.wrap (-(IntKind.u64.wrap n))) = u64 n.natAbs := by
      congr 1
      rw [IntKind.wrap_u64, IntKind.wrap_u64]; omega
    have E := Lib.hid e
    clear e
    go_enter Tryz.func103, Tryz.ntmps103
    go_wp2_with fail
    rw [E.out]
    refine HW.out.mono ?_
    rintro e w' ⟨a, c, rfl, hd, hb⟩
    go_wp2
    go_ret
    exact ⟨a, c, rfl, hd, hb⟩
  · have e : Value.int .u64 n = u64 n.natAbs := by congr 1; omega
    have E := Lib.hid e
    clear e
    go_enter Tryz.func103, Tryz.ntmps103
    go_wp2_with fail
    rw [E.out]
    refine HW.out.mono ?_
    rintro e w' ⟨a, c, rfl, hd, hb⟩
    go_wp2
    go_ret
    exact ⟨a, c, rfl, hd, hb⟩

theorem frac_int (n : Int) : frac (decide (n < 0)) n.natAbs 1 = (n : Rat) := by
  unfold frac sg
  have e : (if decide (n < 0) = true then -(n.natAbs : Int) else (n.natAbs : Int)) = n := by
    by_cases h : n < 0
    · simp [h]; omega
    · simp [h]; omega
  rw [e]
  exact Rat.mkRat_self (n : Rat)
theorem Int_any (n : Int) (h0 : -9223372036854775808 ≤ n) (h1 : n ≤ 9223372036854775807) (w : World) :
    Calls Tryz.prog 55 #[.int .i64 n] w (GivesF w n) := by
  have HS := Lib.hid (fun W => size_any n h0 h1 W)
  have HR := Lib.hid (Box.new w 28 zF3)
  have HN := Lib.hid (frac_int n)
  rw [← frac_int n]
  have hz : w.heap.size < (w.alloc (.cells zF3 28)).heap.size := by simp
  have hba := Lib.hid ((Below.refl w.heap.size w).alloc (Nat.le_refl _) (.cells zF3 28))
  go_enter Tryz.func55, Tryz.ntmps55
  go_wp2_with fail
  refine (HS.out _).mono ?_
  rintro e w1 ⟨a1, c1, rfl, hd1, hb1⟩
  have HR1 := Lib.hid (HR.out.below hb1 hz)
  have HB1 := Lib.hid (hba.out.trans (hb1.mono (Nat.le_of_lt hz)))
  have HB := Lib.hid (build_any (decide (n < 0)) a1 c1 n.natAbs 1 (.slice none 0 0) w1 hd1 (.inl ⟨rfl, rfl⟩) (.inr (Nat.gcd_one_right _)))
  have hz1 : w.heap.size < w1.heap.size := Nat.lt_of_lt_of_le hz hb1.size
  clear hd1 hb1 HS HR hba hz
  go_wp2_with fail
  refine HB.out.mono ?_
  rintro e w2 ⟨v, rfl, hv, hb2⟩
  have HV := Lib.hid hv
  obtain ⟨a3, c3, ab, nb, cb, rfl, _, _⟩ := hv
  have HR2 := Lib.hid (HR1.out.below hb2 hz1)
  have HB2 := Lib.hid (HB1.out.trans (hb2.mono HB1.out.size))
  clear hb2 HR1 HB1
  go_wp2_with (first | (refine wpList_box_store rfl 28 _ _ rfl (w.heap.size) rfl [_, _, _] rfl _ _ HR2.out rfl infoF (frac_one _ _ _ _ _ _ _) ?_; intro X hX))
  exact bodyPost_ret (v := _) (results_cell Tryz.results55 _ _ _ _ rfl (box_load _ hX.box Tryz.underlying28 rfl infoF)) rfl ⟨_, rfl, HV.out.filled HR2.out zF3_no hX, HB2.out.trans (hX.below _ (by first | exact Nat.le_refl _ | omega))⟩

/-- What a function gives whose results are a fraction and no error. -/
def GivesE (w : World) (q : Rat) (e : Ending) (w' : World) : Prop := ∃ v, e = .returned (.tuple #[v, .int .i64 0]) ∧ FracAt w' v q ∧ Below w.heap.size w w'
theorem frac_div (n d : Int) : frac (decide (n < 0) != decide (d < 0)) n.natAbs d.natAbs = (n : Rat) / (d : Rat) := by
  rw [← Rat.divInt_eq_div]
  unfold frac sg
  by_cases h : d < 0
  · have e : d = -(d.natAbs : Int) := by omega
    have e2 : Rat.divInt n d = mkRat (-n) d.natAbs := by
      conv => lhs; rw [e]
      rw [Rat.divInt_neg', Rat.divInt_ofNat]
    rw [e2]
    congr 1
    by_cases hn : n < 0 <;> simp [h, hn] <;> omega
  · have e : d = (d.natAbs : Int) := by omega
    have e2 : Rat.divInt n d = mkRat n d.natAbs := by
      conv => lhs; rw [e]
      rw [Rat.divInt_ofNat]
    rw [e2]
    congr 1
    by_cases hn : n < 0 <;> simp [h, hn] <;> omega
theorem nl_i64 {n : Int} (h0 : -9223372036854775808 ≤ n) (h1 : n ≤ 9223372036854775807) : nl n.natAbs ≤ 1 := nl_le (by rw [Nat.pow_one]; unfold B; omega)
theorem New_any (n d : Int) (h0 : -9223372036854775808 ≤ n) (h1 : n ≤ 9223372036854775807) (k0 : -9223372036854775808 ≤ d) (k1 : d ≤ 9223372036854775807) (hd0 : d ≠ 0) (w : World) (hE : Env w) :
    Calls Tryz.prog 34 #[.int .i64 n, .int .i64 d] w (GivesE w ((n : Rat) / (d : Rat))) := by
  have HS := Lib.hid (fun W => size_any n h0 h1 W)
  have HS2 := Lib.hid (fun W => size_any d k0 k1 W)
  have hn1 := nl_i64 h0 h1
  have hn2 := nl_i64 k0 k1
  have HR := Lib.hid (Box.new w 28 zF3)
  rw [← frac_div n d]
  have hz : w.heap.size < (w.alloc (.cells zF3 28)).heap.size := by simp
  have hba := Lib.hid ((Below.refl w.heap.size w).alloc (Nat.le_refl _) (.cells zF3 28))
  have hdb : ((d : Int) == 0) = false := by rw [beq_eq_false_iff_ne]; exact hd0
  have hda : d.natAbs ≠ 0 := by omega
  have HE := Lib.hid (fun M (h : Below w.heap.size w M) => hE.mono h)
  clear hE
  go_enter Tryz.func34, Tryz.ntmps34
  go_wp2_with fail
  refine (HS.out _).mono ?_
  rintro e w1 ⟨a1, c1, rfl, hd1, hb1⟩
  have HR1 := Lib.hid (HR.out.below hb1 hz)
  have HB1 := Lib.hid (hba.out.trans (hb1.mono (Nat.le_of_lt hz)))
  have HD1 := Lib.hid hd1
  have hz1 : w.heap.size < w1.heap.size := Nat.lt_of_lt_of_le hz hb1.size
  clear hd1 hb1 HS HR hba hz
  go_wp2_with fail
  refine (HS2.out _).mono ?_
  rintro e w2 ⟨a2, c2, rfl, hd2, hb2⟩
  have HR2 := Lib.hid (HR1.out.below hb2 hz1)
  have HB2 := Lib.hid (HB1.out.trans (hb2.mono HB1.out.size))
  have HT := Lib.hid (ratio_any (decide (n < 0) != decide (d < 0)) a1 a2 c1 c2 n.natAbs d.natAbs w2 (HD1.out.mono hb2) hd2 (by omega) (by omega) hda (HE.out _ HB2.out))
  have hz2 : w.heap.size < w2.heap.size := Nat.lt_of_lt_of_le hz1 hb2.size
  clear hd2 hb2 HD1 HR1 HB1 HE HS2 hz1
  go_wp2_with fail
  have hneq : (!(decide (n < 0) == decide (d < 0))) = (decide (n < 0) != decide (d < 0)) := rfl
  refine HT.out.mono ?_
  rintro e w3 ⟨v, rfl, hv, hb3⟩
  have HV := Lib.hid hv
  obtain ⟨a3, c3, ab, nb, cb, rfl, _, _⟩ := hv
  have HR3 := Lib.hid (HR2.out.below hb3 hz2)
  have HB3 := Lib.hid (HB2.out.trans (hb3.mono HB2.out.size))
  clear hb3 HR2 HB2 hneq
  go_wp2_with (first | (refine wpList_box_store rfl 28 _ _ rfl (w.heap.size) rfl [_, _, _] rfl _ _ HR3.out rfl infoF (frac_one _ _ _ _ _ _ _) ?_; intro X hX))
  exact bodyPost_ret (v := _) (results_cell_slot Tryz.results34 _ _ _ _ rfl (box_load _ hX.box Tryz.underlying28 rfl infoF)) rfl ⟨_, rfl, HV.out.filled HR3.out zF3_no hX, HB3.out.trans (hX.below _ (by first | exact Nat.le_refl _ | omega))⟩

/-- A sum of two numbers with signs. -/
def GivesSum (w : World) (s : Bool) (x : Nat) (t : Bool) (y : Nat) (e : Ending) (w' : World) : Prop :=
  ∃ r T a c, e = .returned (.tuple #[.bool r, .slice a (nl T) c]) ∧ sg r T = sg s x + sg t y ∧ DigsAt w' a (nl T) c T ∧ Below w.heap.size w w'
theorem sumSigned_any (s t : Bool) (a b : Option Addr) (ca cb x y : Nat) (w : World) (hx : DigsAt w a (nl x) ca x) (hy : DigsAt w b (nl y) cb y) (hnx : nl x ≤ 68719476736) (hny : nl y ≤ 68719476736) :
    Calls Tryz.prog 114 #[.bool s, .slice a (nl x) ca, .bool t, .slice b (nl y) cb] w (GivesSum w s x t y) := by
  by_cases hst : s = t
  · subst hst
    have HA := Lib.hid (add_any a b ca cb x y w hx hy hnx hny)
    have hs : sg s (x + y) = sg s x + sg s y := by cases s <;> simp [sg] <;> omega
    have HS := Lib.hid hs
    have hq : (s == s) = true := by simp
    clear hs hx hy
    go_enter Tryz.func114, Tryz.ntmps114
    go_wp2_with fail
    refine HA.out.mono ?_
    rintro e w1 ⟨a1, c1, rfl, hd, hb⟩
    go_wp2
    go_ret2
    exact ⟨s, x + y, a1, c1, rfl, HS.out, hd, hb⟩
  · have hq : (s == t) = false := by simpa using hst
    have HC := Lib.hid (compare_any a b ca cb x y w hx hy (by omega))
    by_cases hyx : y ≤ x
    · have hc : decide (0 ≤ cmpN x y) = true := by
        rcases Nat.lt_or_ge y x with h | h
        · rw [cmpN_gt h]; rfl
        · rw [cmpN_eq (by omega)]; rfl
      have HA := Lib.hid (fun q => sub_any a b ca cb x y (w.drewN q) (hx.drawn q) (hy.drawn q) hnx hyx)
      have hs : sg s (x - y) = sg s x + sg t y := by cases s <;> cases t <;> simp [sg] at hst ⊢ <;> omega
      have HS := Lib.hid hs
      clear hs hx hy hst
      go_enter Tryz.func114, Tryz.ntmps114
      go_wp2_with fail
      refine HC.out.mono ?_
      rintro e w1 ⟨rfl, q, rfl⟩
      go_wp2_with fail
      refine (HA.out q).mono ?_
      rintro e w1 ⟨a1, c1, rfl, hd, hb⟩
      go_wp2
      go_ret2
      exact ⟨s, x - y, a1, c1, rfl, HS.out, hd, (below_drawn (Below.refl _ w) q).trans hb⟩
    · have hc : decide (0 ≤ cmpN x y) = false := by rw [cmpN_lt (by omega)]; rfl
      have HA := Lib.hid (fun q => sub_any b a cb ca y x (w.drewN q) (hy.drawn q) (hx.drawn q) hny (by omega))
      have hs : sg t (y - x) = sg s x + sg t y := by cases s <;> cases t <;> simp [sg] at hst ⊢ <;> omega
      have HS := Lib.hid hs
      clear hs hx hy hst
      go_enter Tryz.func114, Tryz.ntmps114
      go_wp2_with fail
      refine HC.out.mono ?_
      rintro e w1 ⟨rfl, q, rfl⟩
      go_wp2_with fail
      refine (HA.out q).mono ?_
      rintro e w1 ⟨a1, c1, rfl, hd, hb⟩
      go_wp2
      go_ret2
      exact ⟨t, y - x, a1, c1, rfl, HS.out, hd, (below_drawn (Below.refl _ w) q).trans hb⟩

/-- What a question gives. -/
def GivesV (w : World) (v : Value) (e : Ending) (w' : World) : Prop := e = .returned v ∧ Below w.heap.size w w'
theorem Zero_any {w : World} {v : Value} {q : Rat} (h : FracAt w v q) : Calls Tryz.prog 32 #[v] w (GivesV w (.bool (decide (q = 0)))) := by
  obtain ⟨a, c, ab, nb, cb, rfl, _, _⟩ := h
  have hz : (((nl (top q) : Nat) : Int) == 0) = decide (q = 0) := by
    by_cases h : q = 0
    · subst h; rfl
    · have := nl_pos (fun e => h (top_zero.1 e))
      rw [decide_eq_false h, beq_eq_false_iff_ne]; omega
  have HZ := Lib.hid hz
  clear hz
  go_enter Tryz.func32, Tryz.ntmps32
  go_wp2
  go_ret
  exact ⟨congrArg (fun b => Ending.returned (Value.bool b)) HZ.out, (Below.refl _ _).alloc (Nat.le_refl _) _⟩
theorem Sign_any {w : World} {v : Value} {q : Rat} (h : FracAt w v q) : Calls Tryz.prog 30 #[v] w (GivesV w (.int .i64 (signQ q))) := by
  have h0 := h
  obtain ⟨a, c, ab, nb, cb, rfl, _, _⟩ := h
  have hs := signQ_eq q
  have HZ := Lib.hid (fun W (hW : Below w.heap.size w W) => Zero_any (h0.mono hW))
  by_cases hq : q = 0
  · have e : signQ q = 0 := by subst hq; rfl
    rw [e]
    rw [decide_eq_true hq] at HZ
    clear hs h0 e hq
    go_enter Tryz.func30, Tryz.ntmps30
    go_wp2_with fail
    refine (HZ.out _ (by go_grown)).mono ?_
    rintro e w1 ⟨rfl, hb⟩
    go_wp2
    go_ret
    exact ⟨rfl, (by go_grown : Below w.heap.size w _).trans (hb.mono (by simp))⟩
  · rw [if_neg (fun e => hq (top_zero.1 e))] at hs
    rw [decide_eq_false hq] at HZ
    have HB := Lib.hid (Box.new w 28 #[.bool (neg q), .slice a (nl (top q)) c, .slice ab nb cb])
    have HS := Lib.hid hs
    clear hs h0 hq
    by_cases hn : neg q = true
    · rw [hn] at HS HB HZ ⊢
      go_enter Tryz.func30, Tryz.ntmps30
      go_wp2_with fail
      refine (HZ.out _ (by go_grown)).mono ?_
      rintro e w1 ⟨rfl, hb⟩
      have c0 : w1.cell? ⟨w.heap.size, 0, none⟩ = some (.bool true) := (HB.out.below hb (by simp)).at_ rfl
      go_wp2
      go_ret
      exact ⟨by rw [HS.out]; rfl, (by go_grown : Below w.heap.size w _).trans (hb.mono (by simp))⟩
    · rw [Bool.not_eq_true] at hn
      rw [hn] at HS HB HZ ⊢
      go_enter Tryz.func30, Tryz.ntmps30
      go_wp2_with fail
      refine (HZ.out _ (by go_grown)).mono ?_
      rintro e w1 ⟨rfl, hb⟩
      have c0 : w1.cell? ⟨w.heap.size, 0, none⟩ = some (.bool false) := (HB.out.below hb (by simp)).at_ rfl
      go_wp2
      go_ret
      exact ⟨by rw [HS.out]; rfl, (by go_grown : Below w.heap.size w _).trans (hb.mono (by simp))⟩
end Go.Proofs.YtkkgibnoggickaaGreatDoor
