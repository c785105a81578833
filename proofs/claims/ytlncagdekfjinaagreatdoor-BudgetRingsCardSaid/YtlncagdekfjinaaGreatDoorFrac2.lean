/- size, Int, New, sumSigned, Zero, Sign. Neg, Abs, inverse. Mul and Add. -/
import Derived.Test.YtlncagdekfjinaaGreatDoorFrac
import Derived.Test.YtlncagdekfjinaaGreatDoorAdd
import Derived.Deep.RegionHeld3
namespace Go.Proofs.YtlncagdekfjinaaGreatDoor
open Go.RowKit Go.Sort Dg Fr
theorem size_any (n : Int) (h0 : -9223372036854775808 ≤ n) (h1 : n ≤ 9223372036854775807) (w : World) :
    Calls Tryz.prog 121 #[.int .i64 n] w (Gives w n.natAbs) := by
  have hB : n.natAbs < B := by unfold B; omega
  have HW := Lib.hid (word_any n.natAbs hB w)
  clear hB
  by_cases hn : n < 0
  · have e : Value.int .u64 (IntKind.u64.wrap (-(IntKind.u64.wrap n))) = u64 n.natAbs := by
      congr 1
      rw [IntKind.wrap_u64, IntKind.wrap_u64]; omega
    have E := Lib.hid e
    clear e
    go_enter Tryz.func121, Tryz.ntmps121
    go_wp2_with fail
    rw [E.out]
    refine HW.out.mono ?_
    rintro e w' ⟨a, c, rfl, hd, hb⟩
    go_wp2
    go_ret
    exact ⟨a, c, rfl, hd, hb⟩
  · have e : Value.int .u64 n = u64 n.natAbs := by congr 1; omega
    have E := Lib.hid e
    clear e
    go_enter Tryz.func121, Tryz.ntmps121
    go_wp2_with fail
    rw [E.out]
    refine HW.out.mono ?_
    rintro e w' ⟨a, c, rfl, hd, hb⟩
    go_wp2
    go_ret
    exact ⟨a, c, rfl, hd, hb⟩
theorem frac_int (n : Int) : frac (decide (n < 0)) n.natAbs 1 = (n : Rat) := by
  unfold frac sg
  have e : (if decide (n < 0) = true then -(n.natAbs : Int) else (n.natAbs : Int)) = n := by
    by_cases h : n < 0
    · simp [h]; omega
    · simp [h]; omega
  rw [e]
  exact Rat.mkRat_self (n : Rat)
theorem Int_any (n : Int) (h0 : -9223372036854775808 ≤ n) (h1 : n ≤ 9223372036854775807) (w : World) :
    Calls Tryz.prog 91 #[.int .i64 n] w (GivesF w n) := by
  have HS := Lib.hid (fun W => size_any n h0 h1 W)
  have HR := Lib.hid (Box.new w 97 zF3)
  have HN := Lib.hid (frac_int n)
  rw [← frac_int n]
  have hz : w.heap.size < (w.alloc (.cells zF3 97)).heap.size := by simp
  have hba := Lib.hid ((Below.refl w.heap.size w).alloc (Nat.le_refl _) (.cells zF3 97))
  go_enter Tryz.func91, Tryz.ntmps91
  go_wp2_with fail
  refine (HS.out _).mono ?_
  rintro e w1 ⟨a1, c1, rfl, hd1, hb1⟩
  have HR1 := Lib.hid (HR.out.below hb1 hz)
  have HB1 := Lib.hid (hba.out.trans (hb1.mono (Nat.le_of_lt hz)))
  have HB := Lib.hid (build_any (decide (n < 0)) a1 c1 n.natAbs 1 (.slice none 0 0) w1 hd1 (.inl ⟨rfl, rfl⟩) (.inr (Nat.gcd_one_right _)))
  have hz1 : w.heap.size < w1.heap.size := Nat.lt_of_lt_of_le hz hb1.size
  clear hd1 hb1 HS HR hba hz
  go_wp2_with fail
  refine HB.out.mono ?_
  rintro e w2 ⟨v, rfl, hv, hb2⟩
  have HV := Lib.hid hv
  obtain ⟨a3, c3, ab, nb, cb, rfl, _, _⟩ := hv
  have HR2 := Lib.hid (HR1.out.below hb2 hz1)
  have HB2 := Lib.hid (HB1.out.trans (hb2.mono HB1.out.size))
  clear hb2 HR1 HB1
  go_wp2_with (first | (refine wpList_box_store rfl 97 _ _ rfl (w.heap.size) rfl [_, _, _] rfl _ _ HR2.out rfl infoF (frac_one _ _ _ _ _ _ _) ?_; intro X hX))
  exact bodyPost_ret (v := _) (results_cell Tryz.results91 _ _ _ _ rfl (box_load _ hX.box Tryz.underlying97 rfl infoF)) rfl ⟨_, rfl, HV.out.filled HR2.out zF3_no hX, HB2.out.trans (hX.below _ (by first | exact Nat.le_refl _ | omega))⟩
def GivesE (w : World) (q : Rat) (e : Ending) (w' : World) : Prop := ∃ v, e = .returned (.tuple #[v, .int .i64 0]) ∧ FracAt w' v q ∧ Below w.heap.size w w'
theorem frac_div (n d : Int) : frac (decide (n < 0) != decide (d < 0)) n.natAbs d.natAbs = (n : Rat) / (d : Rat) := by
  rw [← Rat.divInt_eq_div]
  unfold frac sg
  by_cases h : d < 0
  · have e : d = -(d.natAbs : Int) := by omega
    have e2 : Rat.divInt n d = mkRat (-n) d.natAbs := by
      conv => lhs; rw [e]
      rw [Rat.divInt_neg', Rat.divInt_ofNat]
    rw [e2]
    congr 1
    by_cases hn : n < 0 <;> simp [h, hn] <;> omega
  · have e : d = (d.natAbs : Int) := by omega
    have e2 : Rat.divInt n d = mkRat n d.natAbs := by
      conv => lhs; rw [e]
      rw [Rat.divInt_ofNat]
    rw [e2]
    congr 1
    by_cases hn : n < 0 <;> simp [h, hn] <;> omega
theorem nl_i64 {n : Int} (h0 : -9223372036854775808 ≤ n) (h1 : n ≤ 9223372036854775807) : nl n.natAbs ≤ 1 := nl_le (by rw [Nat.pow_one]; unfold B; omega)
theorem New_any (n d : Int) (h0 : -9223372036854775808 ≤ n) (h1 : n ≤ 9223372036854775807) (k0 : -9223372036854775808 ≤ d) (k1 : d ≤ 9223372036854775807) (hd0 : d ≠ 0) (w : World) (hE : Env w) :
    Calls Tryz.prog 58 #[.int .i64 n, .int .i64 d] w (GivesE w ((n : Rat) / (d : Rat))) := by
  have HS := Lib.hid (fun W => size_any n h0 h1 W)
  have HS2 := Lib.hid (fun W => size_any d k0 k1 W)
  have hn1 := nl_i64 h0 h1
  have hn2 := nl_i64 k0 k1
  have HR := Lib.hid (Box.new w 97 zF3)
  rw [← frac_div n d]
  have hz : w.heap.size < (w.alloc (.cells zF3 97)).heap.size := by simp
  have hba := Lib.hid ((Below.refl w.heap.size w).alloc (Nat.le_refl _) (.cells zF3 97))
  have hdb : ((d : Int) == 0) = false := by rw [beq_eq_false_iff_ne]; exact hd0
  have hda : d.natAbs ≠ 0 := by omega
  have HE := Lib.hid (fun M (h : Below w.heap.size w M) => hE.mono h)
  clear hE
  go_enter Tryz.func58, Tryz.ntmps58
  go_wp2_with fail
  refine (HS.out _).mono ?_
  rintro e w1 ⟨a1, c1, rfl, hd1, hb1⟩
  have HR1 := Lib.hid (HR.out.below hb1 hz)
  have HB1 := Lib.hid (hba.out.trans (hb1.mono (Nat.le_of_lt hz)))
  have HD1 := Lib.hid hd1
  have hz1 : w.heap.size < w1.heap.size := Nat.lt_of_lt_of_le hz hb1.size
  clear hd1 hb1 HS HR hba hz
  go_wp2_with fail
  refine (HS2.out _).mono ?_
  rintro e w2 ⟨a2, c2, rfl, hd2, hb2⟩
  have HR2 := Lib.hid (HR1.out.below hb2 hz1)
  have HB2 := Lib.hid (HB1.out.trans (hb2.mono HB1.out.size))
  have HT := Lib.hid (ratio_any (decide (n < 0) != decide (d < 0)) a1 a2 c1 c2 n.natAbs d.natAbs w2 (HD1.out.mono hb2) hd2 (by omega) (by omega) hda (HE.out _ HB2.out))
  have hz2 : w.heap.size < w2.heap.size := Nat.lt_of_lt_of_le hz1 hb2.size
  clear hd2 hb2 HD1 HR1 HB1 HE HS2 hz1
  go_wp2_with fail
  have hneq : (!(decide (n < 0) == decide (d < 0))) = (decide (n < 0) != decide (d < 0)) := rfl
  refine HT.out.mono ?_
  rintro e w3 ⟨v, rfl, hv, hb3⟩
  have HV := Lib.hid hv
  obtain ⟨a3, c3, ab, nb, cb, rfl, _, _⟩ := hv
  have HR3 := Lib.hid (HR2.out.below hb3 hz2)
  have HB3 := Lib.hid (HB2.out.trans (hb3.mono HB2.out.size))
  clear hb3 HR2 HB2 hneq
  go_wp2_with (first | (refine wpList_box_store rfl 97 _ _ rfl (w.heap.size) rfl [_, _, _] rfl _ _ HR3.out rfl infoF (frac_one _ _ _ _ _ _ _) ?_; intro X hX))
  exact bodyPost_ret (v := _) (results_cell_slot Tryz.results58 _ _ _ _ rfl (box_load _ hX.box Tryz.underlying97 rfl infoF)) rfl ⟨_, rfl, HV.out.filled HR3.out zF3_no hX, HB3.out.trans (hX.below _ (by first | exact Nat.le_refl _ | omega))⟩
def GivesSum (w : World) (s : Bool) (x : Nat) (t : Bool) (y : Nat) (e : Ending) (w' : World) : Prop :=
  ∃ r T a c, e = .returned (.tuple #[.bool r, .slice a (nl T) c]) ∧ sg r T = sg s x + sg t y ∧ DigsAt w' a (nl T) c T ∧ Below w.heap.size w w'
theorem sumSigned_any (s t : Bool) (a b : Option Addr) (ca cb x y : Nat) (w : World) (hx : DigsAt w a (nl x) ca x) (hy : DigsAt w b (nl y) cb y) (hnx : nl x ≤ 68719476736) (hny : nl y ≤ 68719476736) :
    Calls Tryz.prog 128 #[.bool s, .slice a (nl x) ca, .bool t, .slice b (nl y) cb] w (GivesSum w s x t y) := by
  by_cases hst : s = t
  · subst hst
    have HA := Lib.hid (add_any a b ca cb x y w hx hy hnx hny)
    have hs : sg s (x + y) = sg s x + sg s y := by cases s <;> simp [sg] <;> omega
    have HS := Lib.hid hs
    have hq : (s == s) = true := by simp
    clear hs hx hy
    go_enter Tryz.func128, Tryz.ntmps128
    go_wp2_with fail
    refine HA.out.mono ?_
    rintro e w1 ⟨a1, c1, rfl, hd, hb⟩
    go_wp2
    go_ret2
    exact ⟨s, x + y, a1, c1, rfl, HS.out, hd, hb⟩
  · have hq : (s == t) = false := by simpa using hst
    have HC := Lib.hid (compare_any a b ca cb x y w hx hy (by omega))
    by_cases hyx : y ≤ x
    · have hc : decide (0 ≤ cmpN x y) = true := by
        rcases Nat.lt_or_ge y x with h | h
        · rw [cmpN_gt h]; rfl
        · rw [cmpN_eq (by omega)]; rfl
      have HA := Lib.hid (fun q => sub_any a b ca cb x y (w.drewN q) (hx.drawn q) (hy.drawn q) hnx hyx)
      have hs : sg s (x - y) = sg s x + sg t y := by cases s <;> cases t <;> simp [sg] at hst ⊢ <;> omega
      have HS := Lib.hid hs
      clear hs hx hy hst
      go_enter Tryz.func128, Tryz.ntmps128
      go_wp2_with fail
      refine HC.out.mono ?_
      rintro e w1 ⟨rfl, q, rfl⟩
      go_wp2_with fail
      refine (HA.out q).mono ?_
      rintro e w1 ⟨a1, c1, rfl, hd, hb⟩
      go_wp2
      go_ret2
      exact ⟨s, x - y, a1, c1, rfl, HS.out, hd, (below_drawn (Below.refl _ w) q).trans hb⟩
    · have hc : decide (0 ≤ cmpN x y) = false := by rw [cmpN_lt (by omega)]; rfl
      have HA := Lib.hid (fun q => sub_any b a cb ca y x (w.drewN q) (hy.drawn q) (hx.drawn q) hny (by omega))
      have hs : sg t (y - x) = sg s x + sg t y := by cases s <;> cases t <;> simp [sg] at hst ⊢ <;> omega
      have HS := Lib.hid hs
      clear hs hx hy hst
      go_enter Tryz.func128, Tryz.ntmps128
      go_wp2_with fail
      refine HC.out.mono ?_
      rintro e w1 ⟨rfl, q, rfl⟩
      go_wp2_with fail
      refine (HA.out q).mono ?_
      rintro e w1 ⟨a1, c1, rfl, hd, hb⟩
      go_wp2
      go_ret2
      exact ⟨t, y - x, a1, c1, rfl, HS.out, hd, (below_drawn (Below.refl _ w) q).trans hb⟩
def GivesV (w : World) (v : Value) (e : Ending) (w' : World) : Prop := e = .returned v ∧ Below w.heap.size w w'
theorem Zero_any {w : World} {v : Value} {q : Rat} (h : FracAt w v q) : Calls Tryz.prog 142 #[v] w (GivesV w (.bool (decide (q = 0)))) := by
  obtain ⟨a, c, ab, nb, cb, rfl, _, _⟩ := h
  have hz : (((nl (top q) : Nat) : Int) == 0) = decide (q = 0) := by
    by_cases h : q = 0
    · subst h; rfl
    · have := nl_pos (fun e => h (top_zero.1 e))
      rw [decide_eq_false h, beq_eq_false_iff_ne]; omega
  have HZ := Lib.hid hz
  clear hz
  go_enter Tryz.func142, Tryz.ntmps142
  go_wp2
  go_ret
  exact ⟨congrArg (fun b => Ending.returned (Value.bool b)) HZ.out, (Below.refl _ _).alloc (Nat.le_refl _) _⟩
theorem Sign_any {w : World} {v : Value} {q : Rat} (h : FracAt w v q) : Calls Tryz.prog 88 #[v] w (GivesV w (.int .i64 (signQ q))) := by
  have h0 := h
  obtain ⟨a, c, ab, nb, cb, rfl, _, _⟩ := h
  have hs := signQ_eq q
  have HZ := Lib.hid (fun W (hW : Below w.heap.size w W) => Zero_any (h0.mono hW))
  by_cases hq : q = 0
  · have e : signQ q = 0 := by subst hq; rfl
    rw [e]
    rw [decide_eq_true hq] at HZ
    clear hs h0 e hq
    go_enter Tryz.func88, Tryz.ntmps88
    go_wp2_with fail
    refine (HZ.out _ (by go_grown)).mono ?_
    rintro e w1 ⟨rfl, hb⟩
    go_wp2
    go_ret
    exact ⟨rfl, (by go_grown : Below w.heap.size w _).trans (hb.mono (by simp))⟩
  · rw [if_neg (fun e => hq (top_zero.1 e))] at hs
    rw [decide_eq_false hq] at HZ
    have HB := Lib.hid (Box.new w 97 #[.bool (neg q), .slice a (nl (top q)) c, .slice ab nb cb])
    have HS := Lib.hid hs
    clear hs h0 hq
    by_cases hn : neg q = true
    · rw [hn] at HS HB HZ ⊢
      go_enter Tryz.func88, Tryz.ntmps88
      go_wp2_with fail
      refine (HZ.out _ (by go_grown)).mono ?_
      rintro e w1 ⟨rfl, hb⟩
      have c0 : w1.cell? ⟨w.heap.size, 0, none⟩ = some (.bool true) := (HB.out.below hb (by simp)).at_ rfl
      go_wp2
      go_ret
      exact ⟨by rw [HS.out]; rfl, (by go_grown : Below w.heap.size w _).trans (hb.mono (by simp))⟩
    · rw [Bool.not_eq_true] at hn
      rw [hn] at HS HB HZ ⊢
      go_enter Tryz.func88, Tryz.ntmps88
      go_wp2_with fail
      refine (HZ.out _ (by go_grown)).mono ?_
      rintro e w1 ⟨rfl, hb⟩
      have c0 : w1.cell? ⟨w.heap.size, 0, none⟩ = some (.bool false) := (HB.out.below hb (by simp)).at_ rfl
      go_wp2
      go_ret
      exact ⟨by rw [HS.out]; rfl, (by go_grown : Below w.heap.size w _).trans (hb.mono (by simp))⟩
end Go.Proofs.YtlncagdekfjinaaGreatDoor
namespace Go.Proofs.YtlncagdekfjinaaGreatDoor
open Go.RowKit Go.Sort Dg Fr
def GivesBot (w : World) (d : Nat) (e : Ending) (w' : World) : Prop := ∃ a n c, e = .returned (.slice a n c) ∧ BotIn w' (.slice a n c) d ∧ Below w.heap.size w w'
theorem cloneB {w : World} {ab : Option Addr} {nb cb d : Nat} (h : BotAt w (.slice ab nb cb) d) (hd : d ≠ 0) (hn : nl d ≤ 1073741800) :
    Calls Tryz.prog 171 #[.slice ab nb cb] w (GivesBot w d) := by
  rcases h with ⟨rfl, e⟩ | ⟨_, a', c', e, hD⟩
  · rw [e]
    refine (clone_any none 0 0 0 w (DigsAt.zero _ _ _) (by omega)).mono ?_
    rintro e w1 ⟨a1, c1, rfl, _, hb, _, hR, h0⟩
    obtain rfl := h0 rfl
    rcases hR with ⟨_, rfl⟩ | ⟨g, cur, e, _⟩
    · exact ⟨_, _, _, rfl, .inl ⟨rfl, rfl⟩, hb⟩
    · cases e
  · rw [e]
    refine (clone_any (some a') (nl d) c' d w hD (by omega)).mono ?_
    rintro e w1 ⟨a1, c1, rfl, h1, hb, _⟩
    exact ⟨_, _, _, rfl, .inr ⟨hd, _, _, rfl, h1⟩, hb⟩
theorem frac_opp_self (q : Rat) : frac (!neg q) (top q) q.den = -q := by rw [← frac_opp, frac_self]
theorem DigsAt.drew {w : World} {a : Option Addr} {m cap Y : Nat} (h : DigsAt w a m cap Y) : DigsAt w.drew a m cap Y := ⟨h.lt, h.fit, h.cells⟩
theorem S3 {w : World} {g : Nat} {t : TypeId} {a b c : Value} (H : Box w g t #[a, b, c]) : w.cell? ⟨g, 0, none⟩ = some a ∧ w.cell? ⟨g, 1, none⟩ = some b ∧ w.cell? ⟨g, 2, none⟩ = some c :=
  ⟨H.at_ rfl, H.at_ rfl, H.at_ rfl⟩
theorem fill3 {w X : World} {g : Nat} {t : TypeId} {x0 x1 x2 b0 b1 b2 : Value} (h : Box w g t #[x0, x1, x2]) (e : ((w.setCell ⟨g, 0, none⟩ b0).setCell ⟨g, 1, none⟩ b1).setCell ⟨g, 2, none⟩ b2 = X) : Filled g t [b0, b1, b2] w X := by
  rw [← e]
  exact filled h [b0, b1, b2] rfl
def Small (q : Rat) : Prop := nl (top q) ≤ 38 ∧ nl q.den ≤ 38
set_option maxHeartbeats 1000000 in
theorem Neg_any {w : World} {v : Value} {q : Rat} (h : FracAt w v q) (hs : Small q) : Calls Tryz.prog 123 #[v] w (GivesF w (-q)) := by
  rw [← frac_opp_self q]
  obtain ⟨a, c, ab, nb, cb, rfl, hd, hB⟩ := h
  have hq : top q = 0 ∨ Nat.Coprime (top q) q.den := .inr (red q)
  have hdn := den_ne q
  obtain ⟨hs1, hs2⟩ := hs
  have HC1 := Lib.hid (fun W (hW : Below w.heap.size w W) => clone_any a (nl (top q)) c (top q) W (hd.mono hW) (by omega))
  have HC2 := Lib.hid (fun W (hW : Below w.heap.size w W) => cloneB (hB.mono hW) hdn (by omega))
  generalize neg q = s at *
  generalize top q = n at *
  generalize q.den = d at *
  have HM := Lib.hid (((Mem.start w).new 97 [.bool s, .slice a (nl n) c, .slice ab nb cb]).new' (n := w.heap.size + 1) (by simp) 97 [.bool false, .slice none 0 0, .slice none 0 0])
  have HQ := Lib.hid hq
  clear hq hd hB
  go_enter Tryz.func123, Tryz.ntmps123
  go_wp2_with fail
  generalize hW : (w.alloc (.cells _ 97)).alloc (.cells _ 97) = W at HM ⊢
  clear hW
  obtain ⟨k0, k1, k2⟩ := S3 (HM.out.box (i := 1) rfl)
  go_region_held3 (fun w' => w'.cell? ⟨w.heap.size, 0, none⟩ = some (.bool s) ∧ w'.cell? ⟨w.heap.size, 1, none⟩ = some (.slice a (nl n) c) ∧ w'.cell? ⟨w.heap.size, 2, none⟩ = some (.slice ab nb cb)) (first | exact ⟨k0, k1, k2⟩ | go_keep)
    (first
      | (go_at_call 171; (with_reducible refine (HC1.out _ HM.out.drew.d).mono ?_); rintro e w1 ⟨a1, c1, rfl, hd1, hb1, _⟩; have HM1 := Lib.hid (HM.out.drew.call hb1); obtain ⟨k0, k1, k2⟩ := S3 (HM1.out.box (i := 1) rfl))
      | (go_at_call 171; (with_reducible refine (HC2.out _ HM1.out.d).mono ?_); rintro e w2 ⟨a2, n2, c2, rfl, hd2, hb2⟩; have HM2 := Lib.hid (HM1.out.call hb2); have HD2 := Lib.hid (hd1.mono hb2); obtain ⟨k0, k1, k2⟩ := S3 (HM2.out.box (i := 1) rfl))
      | (go_at_call 126; (with_reducible refine (build_any (!s) a1 c1 n d _ _ HD2.out hd2 HQ.out).mono ?_); rintro e w3 ⟨v, rfl, hv, hb3⟩; have HM3 := Lib.hid (HM2.out.call hb3); have HV := Lib.hid hv; obtain ⟨a3, c3, a4, n4, c4, rfl, _, _⟩ := hv; obtain ⟨k0, k1, k2⟩ := S3 (HM3.out.box (i := 1) rfl); obtain ⟨r0, r1, r2⟩ := S3 (HM3.out.box (i := 0) rfl); have r3 := (HM3.out.box (i := 0) rfl).free 0; have r4 := (HM3.out.box (i := 0) rfl).free 1; have r5 := (HM3.out.box (i := 0) rfl).free 2))
  generalize hXe : World.setCell (World.setCell (World.setCell w3 _ _) _ _) _ _ = X
  have hX := fill3 (HM3.out.box (i := 0) rfl) hXe
  clear hXe
  go_wp2_with fail
  exact bodyPost_ret (v := _) (results_cell Tryz.results123 _ _ _ _ rfl (box_load _ hX.box Tryz.underlying97 rfl infoF)) rfl ⟨_, rfl, HV.out.filled (HM3.out.box (i := 0) rfl) zF3_no hX, (HM3.out.d).trans (hX.below _ (by first | exact Nat.le_refl _ | omega))⟩
end Go.Proofs.YtlncagdekfjinaaGreatDoor
namespace Go.Proofs.YtlncagdekfjinaaGreatDoor
open Go.RowKit Go.Sort Dg Fr
theorem BotIn.more {w : World} {a : Option Addr} {c d : Nat} (hd : d ≠ 0) (h : DigsAt w a (nl d) c d) : BotIn w (.slice a (nl d) c) d := .inr ⟨hd, _, _, rfl, h⟩
theorem BotIn.one (w : World) : BotIn w (.slice none 0 0) 1 := .inl ⟨rfl, rfl⟩
theorem nl_div (x g : Nat) : nl (x / g) ≤ nl x := nl_mono (Nat.div_le_self _ _)
set_option maxHeartbeats 2000000 in
theorem Mul_any {w : World} {u v : Value} {x y : Rat} (hx : FracAt w u x) (hy : FracAt w v y) (hsx : Small x) (hsy : Small y) (hE : Env w) : Calls Tryz.prog 61 #[u, v] w (GivesF w (x * y)) := by
  obtain ⟨e1, e2, e3⟩ := prod (x := x) (y := y) rfl rfl
  rw [e1, show (neg x != neg y) = (!(neg x == neg y)) from rfl]
  have HUx := Lib.hid (fun W (hW : Below w.heap.size w W) => under_any (hx.mono hW))
  have HUy := Lib.hid (fun W (hW : Below w.heap.size w W) => under_any (hy.mono hW))
  obtain ⟨ax, cx, bx, mx, kx, rfl, hdx, _⟩ := hx
  obtain ⟨ay, cy, by_, my, ky, rfl, hdy, _⟩ := hy
  have hnx := den_ne x
  have hny := den_ne y
  obtain ⟨hx1, hx2⟩ := hsx
  obtain ⟨hy1, hy2⟩ := hsy
  have HCx := Lib.hid (fun W a c (hW : Below w.heap.size w W) (hd : DigsAt W a (nl y.den) c y.den) => cancel_any ax a cx c (top x) y.den W (hdx.mono hW) hd (by omega) (by omega) hny (hE.mono hW))
  have HCy := Lib.hid (fun W a c (hW : Below w.heap.size w W) (hd : DigsAt W a (nl x.den) c x.den) => cancel_any ay a cy c (top y) x.den W (hdy.mono hW) hd (by omega) (by omega) hnx (hE.mono hW))
  have q1 := nl_div (top x) (Nat.gcd (top x) y.den)
  have q2 := nl_div (top y) (Nat.gcd (top y) x.den)
  have q3 := nl_div x.den (Nat.gcd (top y) x.den)
  have q4 := nl_div y.den (Nat.gcd (top x) y.den)
  have HQ := Lib.hid e2
  have HZ := Lib.hid e3
  clear e1 e2 e3 hdx hdy hnx hny
  generalize neg x = sx at *
  generalize neg y = sy at *
  generalize top x / Nat.gcd (top x) y.den = p1 at *
  generalize top y / Nat.gcd (top y) x.den = p2 at *
  generalize x.den / Nat.gcd (top y) x.den = p3 at *
  generalize y.den / Nat.gcd (top x) y.den = p4 at *
  generalize top x = nx at *
  generalize top y = ny at *
  generalize x.den = dx at *
  generalize y.den = dy at *
  generalize by_ = bY at *
  have HM0 := Lib.hid ((((Mem.start w).new' (n := w.heap.size) (by simp) 97 [.bool sx, .slice ax (nl nx) cx, .slice bx mx kx]).new' (n := w.heap.size + 1) (by simp) 97 [.bool sy, .slice ay (nl ny) cy, .slice bY my ky]).new' (n := w.heap.size + 1 + 1) (by simp) 97 [.bool false, .slice none 0 0, .slice none 0 0])
  go_enter Tryz.func61, Tryz.ntmps61
  go_wp2_with fail
  generalize hW : ((w.alloc (.cells _ 97)).alloc (.cells _ 97)).alloc (.cells _ 97) = W at HM0 ⊢
  clear hW hE
  have ne1 : ¬ w.heap.size = w.heap.size + 1 + 1 := by omega
  have ne2 : ¬ w.heap.size + 1 + 1 = w.heap.size := by omega
  obtain ⟨j0, j1, j2⟩ := S3 (HM0.out.box (i := 1) rfl)
  obtain ⟨k0, k1, k2⟩ := S3 (HM0.out.box (i := 2) rfl)
  go_region_held3 (fun w' => w'.cell? ⟨w.heap.size + 1, 0, none⟩ = some (.bool sy) ∧ w'.cell? ⟨w.heap.size + 1, 1, none⟩ = some (.slice ay (nl ny) cy) ∧ w'.cell? ⟨w.heap.size + 1, 2, none⟩ = some (.slice bY my ky) ∧ w'.cell? ⟨w.heap.size, 0, none⟩ = some (.bool sx) ∧ w'.cell? ⟨w.heap.size, 1, none⟩ = some (.slice ax (nl nx) cx) ∧ w'.cell? ⟨w.heap.size, 2, none⟩ = some (.slice bx mx kx)) (first | exact ⟨j0, j1, j2, k0, k1, k2⟩ | go_keep)
    (first
      | (go_at_call 125; (with_reducible refine (HUy.out _ HM0.out.drew.d).mono ?_); rintro e w1 ⟨a1, c1, rfl, hd1, hb1⟩; have HM1 := Lib.hid (HM0.out.drew.call hb1); have HD1 := Lib.hid hd1; obtain ⟨j0, j1, j2⟩ := S3 (HM1.out.box (i := 1) rfl); obtain ⟨k0, k1, k2⟩ := S3 (HM1.out.box (i := 2) rfl))
      | (go_at_call 124; (with_reducible refine (HCx.out _ _ _ HM1.out.d HD1.out).mono ?_); rintro e w2 ⟨a2, c2, a3, c3, rfl, hd2, hd3, hb2⟩; have HM2 := Lib.hid (HM1.out.call hb2); have HD2 := Lib.hid hd2; have HD3 := Lib.hid hd3; obtain ⟨j0, j1, j2⟩ := S3 (HM2.out.box (i := 1) rfl); obtain ⟨k0, k1, k2⟩ := S3 (HM2.out.box (i := 2) rfl)))
  clear hd1 hb1 HD1 hd2 hd3 hb2 HM0 HM1 HUy HCx
  go_wp2_with fail
  go_region_held3 (fun w' => w'.cell? ⟨w.heap.size + 1, 0, none⟩ = some (.bool sy) ∧ w'.cell? ⟨w.heap.size + 1, 1, none⟩ = some (.slice ay (nl ny) cy) ∧ w'.cell? ⟨w.heap.size + 1, 2, none⟩ = some (.slice bY my ky) ∧ w'.cell? ⟨w.heap.size, 0, none⟩ = some (.bool sx) ∧ w'.cell? ⟨w.heap.size, 1, none⟩ = some (.slice ax (nl nx) cx) ∧ w'.cell? ⟨w.heap.size, 2, none⟩ = some (.slice bx mx kx)) (first | exact ⟨j0, j1, j2, k0, k1, k2⟩ | go_keep)
    (first
      | (go_at_call 125; (with_reducible refine (HUx.out _ HM2.out.drew.d).mono ?_); rintro e w3 ⟨a4, c4, rfl, hd4, hb3⟩; have HM3 := Lib.hid (HM2.out.drew.call hb3); have HD2 := Lib.hid (HD2.out.drew.mono hb3); have HD3 := Lib.hid (HD3.out.drew.mono hb3); have HD4 := Lib.hid hd4; obtain ⟨j0, j1, j2⟩ := S3 (HM3.out.box (i := 1) rfl); obtain ⟨k0, k1, k2⟩ := S3 (HM3.out.box (i := 2) rfl))
      | (go_at_call 124; (with_reducible refine (HCy.out _ _ _ HM3.out.d HD4.out).mono ?_); rintro e w4 ⟨a5, c5, a6, c6, rfl, hd5, hd6, hb4⟩; have HM4 := Lib.hid (HM3.out.call hb4); have HD2 := Lib.hid (HD2.out.mono hb4); have HD3 := Lib.hid (HD3.out.mono hb4); have HD5 := Lib.hid hd5; have HD6 := Lib.hid hd6; obtain ⟨j0, j1, j2⟩ := S3 (HM4.out.box (i := 1) rfl); obtain ⟨k0, k1, k2⟩ := S3 (HM4.out.box (i := 2) rfl)))
  clear hd4 hb3 HD4 hd5 hd6 hb4 HM2 HM3 HUx HCy
  go_wp2_with fail
  have HMa := Lib.hid (fun W a b c d (h1 : DigsAt W a (nl (p1)) c (p1)) (h2 : DigsAt W b (nl (p2)) d (p2)) => mul_any a b c d (p1) (p2) W h1 h2 (by omega) (by omega) (by omega))
  have HMb := Lib.hid (fun W a b c d (h1 : DigsAt W a (nl (p3)) c (p3)) (h2 : DigsAt W b (nl (p4)) d (p4)) => mul_any a b c d (p3) (p4) W h1 h2 (by omega) (by omega) (by omega))
  go_region_held3 (fun w' => w'.cell? ⟨w.heap.size + 1, 0, none⟩ = some (.bool sy) ∧ w'.cell? ⟨w.heap.size + 1, 1, none⟩ = some (.slice ay (nl ny) cy) ∧ w'.cell? ⟨w.heap.size + 1, 2, none⟩ = some (.slice bY my ky) ∧ w'.cell? ⟨w.heap.size, 0, none⟩ = some (.bool sx) ∧ w'.cell? ⟨w.heap.size, 1, none⟩ = some (.slice ax (nl nx) cx) ∧ w'.cell? ⟨w.heap.size, 2, none⟩ = some (.slice bx mx kx)) (first | exact ⟨j0, j1, j2, k0, k1, k2⟩ | go_keep)
    (first
      | (go_at_call 127; (with_reducible refine (HMa.out _ _ _ _ _ HD2.out.drew HD5.out.drew).mono ?_); rintro e w5 ⟨a7, c7, rfl, hd7, hb5⟩; have HM5 := Lib.hid (HM4.out.drew.call hb5); have HD2 := Lib.hid (HD2.out.drew.mono hb5); have HD3 := Lib.hid (HD3.out.drew.mono hb5); have HD5 := Lib.hid (HD5.out.drew.mono hb5); have HD6 := Lib.hid (HD6.out.drew.mono hb5); have HD7 := Lib.hid hd7; obtain ⟨j0, j1, j2⟩ := S3 (HM5.out.box (i := 1) rfl); obtain ⟨k0, k1, k2⟩ := S3 (HM5.out.box (i := 2) rfl))
      | (go_at_call 127; (with_reducible refine (HMb.out _ _ _ _ _ HD6.out HD3.out).mono ?_); rintro e w6 ⟨a8, c8, rfl, hd8, hb6⟩; have HM6 := Lib.hid (HM5.out.call hb6); have HD2 := Lib.hid (HD2.out.mono hb6); have HD3 := Lib.hid (HD3.out.mono hb6); have HD5 := Lib.hid (HD5.out.mono hb6); have HD6 := Lib.hid (HD6.out.mono hb6); have HD7 := Lib.hid (HD7.out.mono hb6); have HD8 := Lib.hid hd8; obtain ⟨j0, j1, j2⟩ := S3 (HM6.out.box (i := 1) rfl); obtain ⟨k0, k1, k2⟩ := S3 (HM6.out.box (i := 2) rfl))
      | (go_at_call 126; (with_reducible refine (build_any (!(sx == sy)) a7 c7 (p1 * p2) (p3 * p4) _ _ HD7.out (BotIn.more HZ.out HD8.out) (.inr HQ.out)).mono ?_); rintro e w7 ⟨v, rfl, hv, hb7⟩; have HM7 := Lib.hid (HM6.out.call hb7); have HD2 := Lib.hid (HD2.out.mono hb7); have HD3 := Lib.hid (HD3.out.mono hb7); have HD5 := Lib.hid (HD5.out.mono hb7); have HD6 := Lib.hid (HD6.out.mono hb7); have HD7 := Lib.hid (HD7.out.mono hb7); have HD8 := Lib.hid (HD8.out.mono hb7); have HV := Lib.hid hv; obtain ⟨a9, c9, b9, m9, k9, rfl, _, _⟩ := hv; obtain ⟨j0, j1, j2⟩ := S3 (HM7.out.box (i := 1) rfl); obtain ⟨k0, k1, k2⟩ := S3 (HM7.out.box (i := 2) rfl); obtain ⟨r0, r1, r2⟩ := S3 (HM7.out.box (i := 0) rfl); have r3 := (HM7.out.box (i := 0) rfl).free 0; have r4 := (HM7.out.box (i := 0) rfl).free 1; have r5 := (HM7.out.box (i := 0) rfl).free 2))
  clear hd7 hb5 hd8 hb6 hb7
  generalize hXe : World.setCell (World.setCell (World.setCell w7 _ _) _ _) _ _ = X
  have hX := fill3 (HM7.out.box (i := 0) rfl) hXe
  clear hXe
  go_wp2_with fail
  exact bodyPost_ret (v := _) (results_cell Tryz.results61 _ _ _ _ rfl (box_load _ hX.box Tryz.underlying97 rfl infoF)) rfl ⟨_, rfl, HV.out.filled (HM7.out.box (i := 0) rfl) zF3_no hX, (HM7.out.d).trans (hX.below _ (by first | exact Nat.le_refl _ | omega))⟩
end Go.Proofs.YtlncagdekfjinaaGreatDoor
