/- (limbs).low, (limbs).divide and (limbs).over. -/
import Derived.Test.YtlncagdekfjinaaGreatDoorLong
import Derived.Test.YtlncagdekfjinaaGreatDoorDivide
import Derived.RegionTactic
import Derived.ChangeAlike
namespace Go.Proofs.YtlncagdekfjinaaGreatDoor
open Go.RowKit Go.Sort Dg
theorem DigsAt.low {w : World} {a : Option Addr} {m cap Y k : Nat} (h : DigsAt w a m cap Y) (hk : k ≤ m) : DigsAt w a k cap (Y % B ^ k) :=
  ⟨Nat.mod_lt _ (B_pow_pos k), Nat.le_trans hk h.fit, fun h0 => by
    obtain ⟨b, off, e, hb, hc⟩ := h.cells (by omega)
    exact ⟨b, off, e, hb, fun i hi => by rw [dig_of_mod hi]; exact hc i (by omega)⟩⟩
theorem low_value (x n : Nat) : put (x % B ^ (n / 64 + 1)) (n / 64) (dig x (n / 64) % 2 ^ (n % 64)) = x % 2 ^ n := by
  have h1 := put_add (x % B ^ (n / 64 + 1)) (n / 64) (dig x (n / 64) % 2 ^ (n % 64))
  rw [dig_of_mod (Nat.lt_succ_self _), mod_succ] at h1
  have h2 : 2 ^ n = B ^ (n / 64) * 2 ^ (n % 64) := by rw [B_pow_two, ← Nat.pow_add]; congr 1; omega
  have h3 : dig x (n / 64) % 2 ^ (n % 64) = x / B ^ (n / 64) % 2 ^ (n % 64) := by
    unfold dig
    exact Nat.mod_mod_of_dvd _ ⟨2 ^ (64 - n % 64), two_split (by omega)⟩
  rw [h2, Nat.mod_mul, ← h3, Nat.mul_comm (B ^ (n / 64)), mod_succ]
  omega
theorem mask_value (d k : Nat) (hd : d < B) : Value.int .u64 (bits .and .u64 (d : Int) (IntKind.u64.wrap (IntKind.u64.wrap (2 ^ (k % 64)) - 1))) = u64 (d % 2 ^ (k % 64)) := by
  have e : (2 : Int) ^ (k % 64) = ((2 ^ (k % 64) : Nat) : Int) := by rw [Int.natCast_pow]; rfl
  have h1 := two_lt (Nat.mod_lt k (show 64 > 0 by omega))
  have h2 := Nat.two_pow_pos (k % 64)
  rw [e, wrapU, Nat.mod_eq_of_lt h1, show ((2 ^ (k % 64) : Nat) : Int) - 1 = ((2 ^ (k % 64) - 1 : Nat) : Int) by omega, wrapU, Nat.mod_eq_of_lt (by omega)]
  have h3 := u64_and_nat d (2 ^ (k % 64) - 1) hd (by have := B_eq; omega)
  rw [h3, Nat.and_two_pow_sub_one_eq_mod]
theorem low_room (a : Option Addr) (cap x n : Nat) (w : World) (h : DigsAt w a (nl x) cap x) (hl : nl x ≤ 68719476736) (hn : n ≤ 1152921504606846976) :
    Calls Tryz.prog 208 #[.slice a (nl x) cap, .int .i64 n] w (GivesR w (x % 2 ^ n)) := by
  by_cases hb : bl x ≤ n
  · have hx0 : x % 2 ^ n = x := Nat.mod_eq_of_lt (lt_of_bl_le hb)
    rw [hx0]
    clear hx0
    go_enter Tryz.func208, Tryz.ntmps208
    go_wp2_with (first | (go_at_call 180; refine (length_any a cap x w h (by omega)).mono ?_; rintro e w' ⟨rfl, rfl⟩))
    refine (clone_any a (nl x) cap x w h (by omega)).mono ?_
    rintro e w1 ⟨a1, c1, rfl, hd, hb, _, hR, _⟩
    go_wp2
    go_ret
    exact ⟨_, _, rfl, hd, hb, hR⟩
  · have hbn := bl_le_nl x
    have hb' : n < bl x := by omega
    have hbd : decide (bl x ≤ n) = false := by simp; omega
    have hk : n / 64 + 1 ≤ nl x := by omega
    have hkc : n / 64 + 1 ≤ cap := Nat.le_trans hk h.fit
    have hlow := h.low hk
    have j0 : ((n : Int) / 64 + 1).toNat = n / 64 + 1 := by omega
    have j1 : ((n : Int) / 64).toNat = n / 64 := by omega
    clear hb
    go_enter Tryz.func208, Tryz.ntmps208
    go_wp2_with (first | (go_at_call 180; refine (length_any a cap x w h (by omega)).mono ?_; rintro e w' ⟨rfl, rfl⟩))
    refine (clone_any a (n / 64 + 1) cap (x % B ^ (n / 64 + 1)) w hlow (by omega)).mono ?_
    rintro e w1 ⟨a1, c1, rfl, hd, hb, hr0, hR, _⟩
    obtain ⟨g, rfl, hg1, hg2, hr⟩ := hr0 (by omega)
    have HR := Lib.hid hR
    clear hR
    clear hr0
    have g1 : w1.cell? ⟨g, n / 64, none⟩ = some (u64 (dig x (n / 64))) := by
      have := (hr (n / 64) (by simp)).1; rwa [digs_get (by omega), Nat.zero_add, dig_of_mod (by omega)] at this
    have g2 : w1.frozen? ⟨g, n / 64, none⟩ = false := by
      have := (hr (n / 64) (by simp)).2; rwa [Nat.zero_add] at this
    have j2 : (0 : Int) ≤ (n : Int) / 64 := by omega
    have j3 : (n : Int) / 64 < (n : Int) / 64 + 1 := by omega
    go_wp2
    go_region
    go_wp2_with fail
    rw [mask_value _ _ (dig_lt _ _)]
    obtain ⟨s1, s2⟩ := hr.set (i := n / 64) (d := dig x (n / 64) % 2 ^ (n % 64)) (by omega) (Nat.lt_of_le_of_lt (Nat.mod_le _ _) (dig_lt _ _)) (low_value x n)
    rw [Nat.zero_add] at s1
    rw [s1]
    have hlt : x % 2 ^ n < B ^ (n / 64 + 1) := by
      rw [B_pow_two]
      exact Nat.lt_of_lt_of_le (Nat.mod_lt _ (Nat.two_pow_pos n)) (Nat.pow_le_pow_right (by omega) (by omega))
    have hd2 : DigsAt (rowW w1 g 0 (n / 64 + 1) (x % 2 ^ n)).drew (some ⟨g, 0, none⟩) (n / 64 + 1) c1 (x % 2 ^ n) :=
      (s2.digs hlt (by rw [rowW_size]; exact hg2) hd.fit).drawn 1
    have hb2 : Below w.heap.size w (rowW w1 g 0 (n / 64 + 1) (x % 2 ^ n)).drew := (rowW_below hb hg1).drew
    clear s1 s2 g1 g2
    refine (trim_any _ (n / 64 + 1) c1 (x % 2 ^ n) _ hd2 (by omega)).mono ?_
    rintro e w' ⟨rfl, rfl⟩
    go_wp2
    go_ret
    exact ⟨_, _, rfl, hd2.shrink, hb2, (HR.out.rowW ..).drawn 1⟩
def Gives2 (w : World) (q r : Nat) (e : Ending) (w' : World) : Prop :=
  ∃ a1 c1 a2 c2, e = .returned (.tuple #[.slice a1 (nl q) c1, .slice a2 (nl r) c2]) ∧ DigsAt w' a1 (nl q) c1 q ∧ DigsAt w' a2 (nl r) c2 r ∧ Below w.heap.size w w' ∧ Room w' w.heap.size a2 c2
theorem two_of_tz {y : Nat} (hy : y ≠ 0) (h : tz y = bl y - 1) : y = 2 ^ tz y := by
  obtain ⟨m, hm⟩ := tz_spec hy
  have h1 := lt_bl y
  have h2 := bl_pos hy
  rw [show bl y = tz y + 1 by omega, Nat.pow_succ] at h1
  rcases Nat.eq_zero_or_pos m with h0 | h0
  · rw [h0] at hm; simpa using hm
  · exfalso
    have h3 : 2 ^ tz y * 2 ≤ 2 ^ tz y * (2 * m + 1) := Nat.mul_le_mul_left _ (by omega)
    omega
theorem divide_any (a b : Option Addr) (ca cb x y : Nat) (w : World) (hx : DigsAt w a (nl x) ca x) (hy : DigsAt w b (nl y) cb y) (hnx : nl x ≤ 68719476735) (hny : nl y ≤ 68719476735) (hy0 : y ≠ 0) (hE : Env w) :
    Calls Tryz.prog 183 #[.slice a (nl x) ca, .slice b (nl y) cb] w (Gives2 w (x / y) (x % y)) := by
  have hZ := fun q => zeros_any b cb y (w.drewN q) (hy.drawn q) (by omega) (hE.drawn q)
  have hC := fun q => compare_any a b ca cb x y (w.drewN q) (hx.drawn q) (hy.drawn q) (by omega)
  have hLn := fun q => length_any b cb y (w.drewN q) (hy.drawn q) (by omega)
  have HZ := Lib.hid hZ
  have HC := Lib.hid hC
  have HLN := Lib.hid hLn
  clear hZ hC hLn
  by_cases h1 : x < y
  · have hc : cmpN x y = -1 := cmpN_lt h1
    have e1 : x / y = 0 := Nat.div_eq_of_lt h1
    have e2 : x % y = x := Nat.mod_eq_of_lt h1
    rw [e1, e2]
    clear e1 e2
    rw [hc] at HC
    go_enter Tryz.func183, Tryz.ntmps183
    go_wp2_with (first | (go_at_call 178; refine (HZ.out 0).mono ?_; rintro e w' ⟨rfl, rfl⟩) | (go_at_call 132; refine (HC.out 0).mono ?_; rintro e w' ⟨rfl, q, rfl⟩))
    refine (clone_any a (nl x) ca x _ (hx.drawn q) (by omega)).mono ?_
    rintro e w1 ⟨a1, c1, rfl, hd, hb, _, hR, _⟩
    go_wp2
    go_ret2
    exact ⟨none, 0, _, _, rfl, DigsAt.zero _ _ _, hd, (below_drawn (Below.refl _ w) q).trans hb, hR⟩
  · have hyx : y ≤ x := by omega
    have hc : decide (cmpN x y < 0) = false := by
      rcases Nat.lt_or_ge y x with h | h
      · rw [cmpN_gt h]; rfl
      · rw [cmpN_eq (by omega)]; rfl
    have hbl := bl_pos hy0
    have hbr : bl y ≤ 4398046511040 := by have := bl_le_nl y; omega
    have htz : tz y ≤ 4398046511040 := by have := tz_le hy0 (lt_bl y); omega
    by_cases h2 : tz y = bl y - 1
    · have ht : ((tz y : Int) == (bl y : Int) - 1) = true := by rw [beq_iff_eq]; omega
      have hyt := two_of_tz hy0 h2
      have hr1 := fun q => right_any a ca x (tz y) (w.drewN q) (hx.drawn q) (by omega)
      have hr2 := fun M (hM : Below w.heap.size w M) => low_room a ca x (tz y) M (hx.mono hM) (by omega)
      have HYT := Lib.hid hyt
      have HR1 := Lib.hid hr1
      have HR2 := Lib.hid hr2
      clear h2 hr1 hr2 hyt
      go_enter Tryz.func183, Tryz.ntmps183
      go_wp2_with (first | (go_at_call 178; refine (HZ.out 0).mono ?_; rintro e w' ⟨rfl, rfl⟩) | (go_at_call 132; refine (HC.out 0).mono ?_; rintro e w' ⟨rfl, q, rfl⟩) | (go_at_call 180; refine (HLN.out q).mono ?_; rintro e w' ⟨rfl, rfl⟩))
      refine (HR1.out q (by omega)).mono ?_
      rintro e w1 ⟨a1, c1, rfl, hd1, hb1⟩
      go_wp2_with fail
      refine (HR2.out w1 ((below_drawn (Below.refl _ w) q).trans hb1) (by omega)).mono ?_
      rintro e w2 ⟨a2, c2, rfl, hd2, hb2, hR2⟩
      rw [← HYT.out] at hd1 hd2 ⊢
      go_wp2
      go_ret2
      exact ⟨_, _, _, _, rfl, hd1.mono hb2, hd2, ((below_drawn (Below.refl _ w) q).trans hb1).trans (hb2.mono hb1.size), hR2.low hb1.size⟩
    · have ht : ((tz y : Int) == (bl y : Int) - 1) = false := by rw [beq_eq_false_iff_ne]; omega
      by_cases h3 : nl y = 1
      · have ht3 : (((nl y : Nat) : Int) == 1) = true := by rw [h3]; rfl
        obtain ⟨b2, o2, rfl, hb2, hc2⟩ := hy.cells (by omega)
        have hyB : y < B := by have := lt_nl y; rw [h3, Nat.pow_one] at this; exact this
        have g1 := hc2 0 (by omega)
        rw [dig_one, Nat.mod_eq_of_lt hyB, Nat.add_zero] at g1
        have hp1 : (0 : Int) < (nl y : Nat) := by omega
        have hp2 : 0 < nl y := by omega
        clear h3 hc2
        go_enter Tryz.func183, Tryz.ntmps183
        go_wp2_with (first | (go_at_call 178; refine (HZ.out 0).mono ?_; rintro e w' ⟨rfl, rfl⟩) | (go_at_call 132; refine (HC.out 0).mono ?_; rintro e w' ⟨rfl, q, rfl⟩) | (go_at_call 180; refine (HLN.out q).mono ?_; rintro e w' ⟨rfl, rfl⟩))
        refine (divideWord_any a ca x y _ (hx.drawn q) (by omega) (by omega) hyB).mono ?_
        rintro e w1 ⟨a1, c1, rfl, hd1, hb1⟩
        have hr : x % y < B := Nat.lt_trans (Nat.mod_lt _ (by omega)) hyB
        go_wp2_with fail
        refine (word_room (x % y) hr w1).mono ?_
        rintro e w2 ⟨a2, c2, rfl, hd2, hb2, hR2⟩
        go_wp2
        go_ret2
        exact ⟨_, _, _, _, rfl, hd1.mono hb2, hd2, ((below_drawn (Below.refl _ w) q).trans hb1).trans (hb2.mono hb1.size), hR2.low hb1.size⟩
      · have ht3 : (((nl y : Nat) : Int) == 1) = false := by rw [beq_eq_false_iff_ne]; omega
        have hnp := nl_pos hy0
        have h3' : 2 ≤ nl y := by omega
        clear h3
        go_enter Tryz.func183, Tryz.ntmps183
        go_wp2_with (first | (go_at_call 178; refine (HZ.out 0).mono ?_; rintro e w' ⟨rfl, rfl⟩) | (go_at_call 132; refine (HC.out 0).mono ?_; rintro e w' ⟨rfl, q, rfl⟩) | (go_at_call 180; refine (HLN.out q).mono ?_; rintro e w' ⟨rfl, rfl⟩))
        refine (divideLong_any a b ca cb x y _ (hx.drawn q) (hy.drawn q) hnx h3' hyx).mono ?_
        rintro e w1 ⟨a1, c1, a2, c2, rfl, hd1, hd2, hb1, hR1⟩
        go_wp2
        go_ret2
        exact ⟨_, _, _, _, rfl, hd1, hd2, (below_drawn (Below.refl _ w) q).trans hb1, hR1⟩
theorem over_any (a b : Option Addr) (ca cb x y : Nat) (w : World) (hx : DigsAt w a (nl x) ca x) (hy : DigsAt w b (nl y) cb y) (hnx : nl x ≤ 68719476735) (hny : nl y ≤ 68719476735) (hy0 : y ≠ 0) (hE : Env w) :
    Calls Tryz.prog 130 #[.slice a (nl x) ca, .slice b (nl y) cb] w (Gives w (x / y)) := by
  go_enter Tryz.func130, Tryz.ntmps130
  go_wp2_with fail
  refine (divide_any a b ca cb x y w hx hy hnx hny hy0 hE).mono ?_
  rintro e w1 ⟨a1, c1, a2, c2, rfl, hd1, hd2, hb1, _⟩
  go_wp2
  go_ret
  exact ⟨_, _, rfl, hd1, hb1⟩
end Go.Proofs.YtlncagdekfjinaaGreatDoor
