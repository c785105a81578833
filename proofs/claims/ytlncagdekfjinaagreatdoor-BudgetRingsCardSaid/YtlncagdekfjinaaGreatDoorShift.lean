/- Numbers of package num in binary: power, length, zeros, window, left, right. (limbs).left and (limbs).low: shifts to the left, and the last binary digits. num: power (for seats whose programs reach it). -/
import Derived.Test.YtlncagdekfjinaaGreatDoorLow
import Derived.Test.YtlncagdekfjinaaGreatDoorRoom
import Derived.Laws.BitsAllLaws
namespace Go.Proofs.YtlncagdekfjinaaGreatDoor
open Go.RowKit Go.Sort Dg
theorem length_any (a : Option Addr) (cap x : Nat) (w : World) (h : DigsAt w a (nl x) cap x) (hn : nl x ≤ 1099511627776) :
    Calls Tryz.prog 180 #[.slice a (nl x) cap] w fun e w' => e = .returned (.int .i64 (bl x)) ∧ w = w' := by
  by_cases hx : x = 0
  · subst hx
    rw [nl_zero]
    go_enter Tryz.func180, Tryz.ntmps180
    go_wp2
    go_ret
    exact ⟨rfl, rfl⟩
  · have hp := nl_pos hx
    have ht := bl_top hx
    have hl : bl (dig x (nl x - 1)) ≤ 64 := bl_le (by rw [← B_two64]; exact dig_lt _ _)
    obtain ⟨b, off, rfl, hb, hc⟩ := h.cells (by omega)
    have g1 := hc (nl x - 1) (by omega)
    have hd := dig_lt x (nl x - 1)
    have HT := Lib.hid ht
    have tt : (((nl x : Nat) : Int) == 0) = false := by rw [beq_eq_false_iff_ne]; omega
    clear hc ht hx
    generalize dig x (nl x - 1) = d at *
    generalize nl x = k at *
    have e1 : ((k : Int) - 1).toNat = k - 1 := by omega
    go_enter Tryz.func180, Tryz.ntmps180
    go_wp2_with (first | (go_at_call 207; refine (lead64 _ hd _).mono ?_; rintro e w' ⟨rfl, rfl⟩))
    go_ret
    exact ⟨ret_int (by rw [HT.out]; omega), rfl⟩
theorem zeros_any (a : Option Addr) (cap x : Nat) (w : World) (h : DigsAt w a (nl x) cap x) (hn : nl x ≤ 1099511627776) (hE : Env w) :
    Calls Tryz.prog 178 #[.slice a (nl x) cap] w fun e w' => e = .returned (.int .i64 (tz x)) ∧ w = w' := by
  have hxl := lt_nl x
  have hnz : nl x = 0 → x = 0 := nl_eq_zero.1
  have H0 := Lib.hid hnz
  clear hnz
  generalize nl x = k at *
  go_enter Tryz.func178, Tryz.ntmps178
  go_wp2
  go_loop [7] (fun i => ∃ j : Nat, j ≤ k ∧ i = .int .i64 j ∧ Hid (x % B ^ j = 0)) (fun i => k - (intOf i).toNat)
  case atStart => exact ⟨0, Nat.zero_le _, rfl, by simp [Hid, Nat.mod_one]⟩
  case round =>
    obtain ⟨j, hj, rfl, hv⟩ := hrel
    by_cases hlt : j < k
    · obtain ⟨b, off, rfl, hb, hc⟩ := h.cells (by omega)
      have g1 := hc j hlt
      have hdl := dig_lt x j
      have hs := mod_succ x j
      rw [hv.out, Nat.zero_add] at hs
      have hz := tz_digits (x := x) (i := j) hv.out
      have HS := Lib.hid hs
      have HZ := Lib.hid hz
      clear hs hz hc
      generalize dig x j = d at *
      by_cases hd : d = 0
      · subst hd
        go_wp2
        go_round
        case rel => exact ⟨j + 1, by omega, by go_num, by rw [Hid, HS.out, Nat.zero_mul]⟩
        case measure => simp [intOf]; omega
      · have tt : ((d : Int) != 0) = true := by rw [bne_iff_ne]; omega
        have hz := HZ.out hd
        have H1 := Lib.hid hz
        have hcz := (ctz_spec hd hdl).choose_spec.2
        clear HZ HS hd hz
        go_wp2_with (first | (go_at_call 206; refine (trail64 _ hdl _ hE).mono ?_; rintro e w' ⟨rfl, rfl⟩))
        go_ret
        exact ⟨ret_int (by rw [H1.out]; omega), rfl⟩
    · obtain rfl : j = k := by omega
      have hx0 : x = 0 := by have := hv.out; rwa [Nat.mod_eq_of_lt hxl] at this
      subst hx0
      go_wp2
      go_ret
      exact ⟨rfl, rfl⟩
theorem window_val (d e s : Nat) (hd : d < B) : bits .or .u64 ((d : Int) / 2 ^ s) (IntKind.u64.wrap ((e : Int) * 2 ^ (64 - s))) = ((d / 2 ^ s ||| e * 2 ^ (64 - s) % B : Nat) : Int) := by
  rw [shr_cast, shl_cast, wrapU]
  exact or_cast _ _ (Nat.lt_of_le_of_lt (Nat.div_le_self _ _) hd) (Nat.mod_lt _ B_pos)
theorem window_any (a : Option Addr) (cap x : Nat) (p : Nat) (w : World) (h : DigsAt w a (nl x) cap x) (hn : nl x ≤ 1099511627776) (hp : p ≤ 1152921504606846976) :
    Calls Tryz.prog 182 #[.slice a (nl x) cap, .int .i64 p] w fun e w' => e = .returned (u64 (win x p)) ∧ ∃ q, w.drewN q = w' := by
  have hw := win_or (x := x) (i := p / 64) (s := p % 64) (Nat.mod_lt _ (by omega))
  rw [show 64 * (p / 64) + p % 64 = p by omega] at hw
  have HW := Lib.hid hw
  clear hw
  have hlow : nl x ≤ p / 64 → dig x (p / 64) = 0 := fun h1 => dig_big (Nat.lt_of_lt_of_le (lt_nl x) (Nat.pow_le_pow_right B_pos h1))
  have hhigh : nl x ≤ p / 64 + 1 → dig x (p / 64 + 1) = 0 := fun h1 => dig_big (Nat.lt_of_lt_of_le (lt_nl x) (Nat.pow_le_pow_right B_pos h1))
  have HL := Lib.hid hlow
  have HH := Lib.hid hhigh
  clear hlow hhigh
  have hs : p % 64 < 64 := Nat.mod_lt _ (by omega)
  rcases Nat.lt_or_ge (p / 64 + 1) (nl x) with h1 | h1
  · obtain ⟨b, off, rfl, hb, hc⟩ := h.cells (by omega)
    have g1 := hc (p / 64) (by omega)
    have g2 := hc (p / 64 + 1) h1
    clear hc
    go_enter Tryz.func182, Tryz.ntmps182
    go_wp2
    go_quiet (fail)
    go_wp2
    go_ret
    exact ⟨ret_int ((window_val _ _ _ (dig_lt _ _)).trans (by rw [HW.out])), _, rfl⟩
  · rcases Nat.lt_or_ge (p / 64) (nl x) with h2 | h2
    · obtain ⟨b, off, rfl, hb, hc⟩ := h.cells (by omega)
      have g1 := hc (p / 64) h2
      clear hc
      go_enter Tryz.func182, Tryz.ntmps182
      go_wp2
      go_quiet (fail)
      go_wp2
      go_ret
      refine ⟨ret_int ?_, _, rfl⟩
      rw [shr_cast, ← HW.out, HH.out h1, Nat.zero_mul, Nat.zero_mod]
      exact or_cast _ 0 (Nat.lt_of_le_of_lt (Nat.div_le_self _ _) (dig_lt _ _)) B_pos
    · go_enter Tryz.func182, Tryz.ntmps182
      go_wp2
      go_quiet (fail)
      go_wp2
      go_ret
      refine ⟨ret_int ?_, _, rfl⟩
      rw [← HW.out, HH.out h1, HL.out h2, Nat.zero_mul, Nat.zero_mod, Nat.zero_div]
      exact or_cast 0 0 B_pos B_pos
theorem window_int (a : Option Addr) (cap x : Nat) (pi : Int) (p : Nat) (w : World) (he : pi = p) (h : DigsAt w a (nl x) cap x) (hn : nl x ≤ 1099511627776) (hp : p ≤ 1152921504606846976) :
    Calls Tryz.prog 182 #[.slice a (nl x) cap, .int .i64 pi] w fun e w' => e = .returned (u64 (win x p)) ∧ ∃ q, w.drewN q = w' := by
  rw [he]; exact window_any a cap x p w h hn hp
theorem right_room (a : Option Addr) (cap x n : Nat) (w : World) (h : DigsAt w a (nl x) cap x) (hl : nl x ≤ 68719476736) (hn : n ≤ 1152921504606846976) :
    Calls Tryz.prog 179 #[.slice a (nl x) cap, .int .i64 n] w (GivesR w (x / 2 ^ n)) := by
  by_cases hb : bl x ≤ n
  · have hx0 : x / 2 ^ n = 0 := Nat.div_eq_of_lt (lt_of_bl_le hb)
    rw [hx0]
    clear hx0
    go_enter Tryz.func179, Tryz.ntmps179
    go_wp2_with (first | (go_at_call 180; refine (length_any a cap x w h (by omega)).mono ?_; rintro e w' ⟨rfl, rfl⟩))
    go_ret
    exact ⟨none, 0, rfl, DigsAt.zero _ _ _, Below.refl _ _, Room.nil _ _⟩
  · have hbn := bl_le_nl x
    have hnr := nl_right x n
    have hb' : n < bl x := by omega
    have hbb : w.heap.size ≤ w.heap.size := Nat.le_refl _
    obtain ⟨k, hk⟩ : ∃ k, nl x - n / 64 = k := ⟨_, rfl⟩
    have hmk := fun w => mk_run ((nl x : Int) - (n : Int) / 64) k (by omega) (by omega) w
    have hxk : x / 2 ^ n < B ^ k := Nat.lt_of_lt_of_le (lt_nl _) (Nat.pow_le_pow_right B_pos (by omega))
    have hk2 : k ≤ 68719476736 := by omega
    have hr := mk_row w k
    have hsz := mk_size w k
    have HB := Lib.hid (mk_below w k)
    have HS := Lib.hid hsz
    have hbd : decide (bl x ≤ n) = false := by simp; omega
    clear hk hnr hb hsz
    go_enter Tryz.func179, Tryz.ntmps179
    go_wp2_with (first | (go_at_call 180; refine (length_any a cap x w h (by omega)).mono ?_; rintro e w' ⟨rfl, rfl⟩))
    go_loopw [19] (fun i wr => ∃ j q : Nat, j ≤ k ∧ i = .int .i64 j ∧ wr = (rowW (mk w k) w.heap.size 0 k (x / 2 ^ n % B ^ j)).drewN q) (fun i _ => k - (intOf i).toNat)
    case atStart => exact ⟨0, 0, Nat.zero_le _, rfl, by rw [Nat.pow_zero, Nat.mod_one, hr.self]; rfl⟩
    case round =>
      obtain ⟨j, q, hj, rfl, rfl⟩ := hrel
      have hbel : Below w.heap.size w (rowW (mk w k) w.heap.size 0 k (x / 2 ^ n % B ^ j)) := rowW_below HB.out (Nat.le_refl _)
      by_cases hlt : j < k
      · have g1 : (rowW (mk w k) w.heap.size 0 k (x / 2 ^ n % B ^ j)).cell? ⟨w.heap.size, j, none⟩ = some (u64 (dig (x / 2 ^ n % B ^ j) j)) := by
          have := hr.cell (u := x / 2 ^ n % B ^ j) hlt; rwa [Nat.zero_add] at this
        have g2 : (rowW (mk w k) w.heap.size 0 k (x / 2 ^ n % B ^ j)).frozen? ⟨w.heap.size, j, none⟩ = false := by
          have := hr.free (u := x / 2 ^ n % B ^ j) hlt; rwa [Nat.zero_add] at this
        have hset := rowW_set (w := mk w k) (b := w.heap.size) (off := 0) (n := k) (v := x / 2 ^ n % B ^ j) (i := j) (d := dig (x / 2 ^ n) j) hlt (dig_lt _ _)
        rw [put_mod_dig, Nat.zero_add, dig_right] at hset
        have HSET := Lib.hid hset
        clear hset
        go_wp2_with (first | (go_at_call 182; refine (window_int a cap x _ (64 * j + n) _ (by omega) ((h.mono hbel).drawn q) (by omega) (by omega)).mono ?_; rintro e w' ⟨rfl, q2, rfl⟩))
        go_roundw
        case rel => exact ⟨j + 1, q + q2, by omega, by go_num, congrArg (fun W => World.drewN W (q + q2)) HSET.out⟩
        case measure => simp [intOf]; omega
      · obtain rfl : j = k := by omega
        rw [Nat.mod_eq_of_lt hxk] at hbel ⊢
        have hrow := hr.row (x / 2 ^ n)
        have hd : DigsAt ((rowW (mk w j) w.heap.size 0 j (x / 2 ^ n)).drewN q) (some ⟨w.heap.size, 0, none⟩) j j (x / 2 ^ n) :=
          (hrow.digs hxk (by rw [rowW_size, HS.out]; omega) (Nat.le_refl _)).drawn q
        go_wp2_with (first | (go_at_call 175; refine (trim_any _ j j (x / 2 ^ n) _ hd (by omega)).mono ?_; rintro e w' ⟨rfl, rfl⟩))
        go_ret
        exact ⟨_, _, rfl, hd.shrink, below_drawn hbel q, ((mk_room w j (by omega)).rowW ..).drawn q⟩
theorem right_any (a : Option Addr) (cap x n : Nat) (w : World) (h : DigsAt w a (nl x) cap x) (hl : nl x ≤ 68719476736) (hn : n ≤ 1152921504606846976) :
    Calls Tryz.prog 179 #[.slice a (nl x) cap, .int .i64 n] w (Gives w (x / 2 ^ n)) :=
  (right_room a cap x n w h hl hn).mono fun _ _ h => h.gives
end Go.Proofs.YtlncagdekfjinaaGreatDoor
namespace Go.Proofs.YtlncagdekfjinaaGreatDoor
open Go.RowKit Go.Sort Dg
theorem left_any (a : Option Addr) (cap x n : Nat) (w : World) (h : DigsAt w a (nl x) cap x) (hl : nl x ≤ 68719476736) (hn : n ≤ 68719476736) :
    Calls Tryz.prog 185 #[.slice a (nl x) cap, .int .i64 n] w (Gives w (x * 2 ^ n)) := by
  by_cases hx : x = 0
  · subst hx
    rw [Nat.zero_mul, nl_zero]
    go_enter Tryz.func185, Tryz.ntmps185
    go_wp2
    go_ret
    exact ⟨none, 0, rfl, DigsAt.zero _ _ _, Below.refl _ _⟩
  · have hp := nl_pos hx
    have tt : (((nl x : Nat) : Int) == 0) = false := by rw [beq_eq_false_iff_ne]; omega
    obtain ⟨b, off, rfl, hb, hc⟩ := h.cells (by omega)
    obtain ⟨m, hm⟩ : ∃ m, nl x + n / 64 + 1 = m := ⟨_, rfl⟩
    have hmk := fun w => mk_run ((nl x : Int) + (n : Int) / 64 + 1) m (by omega) (by omega) w
    have hxm : lsh x n (nl x) < B ^ m := by
      have h1 := lsh_lt x n (nl x)
      have h2 := Nat.mul_lt_mul_of_pos_right (two_lt (k := n % 64) (Nat.mod_lt _ (by omega))) (B_pow_pos (nl x + n / 64))
      rw [← hm, Nat.pow_succ, Nat.mul_comm]; omega
    have hval : lsh x n (nl x) = x * 2 ^ n := by unfold lsh; rw [Nat.mod_eq_of_lt (lt_nl x)]
    have hr := mk_row w m
    have hsz := mk_size w m
    have HB := Lib.hid (mk_below w m)
    have HS := Lib.hid hsz
    have HV := Lib.hid hval
    have HC := Lib.hid hc
    clear hx hsz hval hc
    generalize nl x = k at *
    have hm2 : m ≤ 137438953473 := by omega
    have hkm : k + n / 64 + 1 ≤ m := by omega
    have HM := Lib.hid hm
    clear hm
    go_enter Tryz.func185, Tryz.ntmps185
    go_wp2
    go_loopw [20] (fun i wr => ∃ j q : Nat, j ≤ k ∧ i = .int .i64 j ∧ wr = (rowW (mk w m) w.heap.size 0 m (lsh x n j)).drewN q) (fun i _ => k - (intOf i).toNat)
    case atStart => exact ⟨0, 0, Nat.zero_le _, rfl, by rw [lsh_zero, hr.self]; rfl⟩
    case round =>
      obtain ⟨j, q, hj, rfl, rfl⟩ := hrel
      have hbel : Below w.heap.size w (rowW (mk w m) w.heap.size 0 m (lsh x n j)) := rowW_below HB.out (Nat.le_refl _)
      by_cases hlt : j < k
      · have g0 : (rowW (mk w m) w.heap.size 0 m (lsh x n j)).cell? ⟨b, off + j, none⟩ = some (u64 (dig x j)) := (hbel.cell (by exact hb)).trans (HC.out j hlt)
        have g1 : (rowW (mk w m) w.heap.size 0 m (lsh x n j)).cell? ⟨w.heap.size, j + n / 64, none⟩ = some (u64 (dig (lsh x n j) (j + n / 64))) := by
          have := hr.cell (u := lsh x n j) (i := j + n / 64) (by omega); rwa [Nat.zero_add] at this
        have g2 : (rowW (mk w m) w.heap.size 0 m (lsh x n j)).frozen? ⟨w.heap.size, j + n / 64, none⟩ = false := by
          have := hr.free (u := lsh x n j) (i := j + n / 64) (by omega); rwa [Nat.zero_add] at this
        have i0 : (0 : Int) ≤ (j : Int) + (n : Int) / 64 := by omega
        have i1 : (j : Int) + (n : Int) / 64 < (m : Int) := by omega
        have i2 : ((j : Int) + (n : Int) / 64).toNat = j + n / 64 := by omega
        have i3 : IntKind.i64.wrap ((j : Int) + (n : Int) / 64) = (j : Int) + (n : Int) / 64 := IntWalk.i64_in _ (by omega)
        go_wp2
        obtain ⟨wq, hwq⟩ : ∃ wq, (rowW (mk w m) w.heap.size 0 m (lsh x n j)).drewN q = wq := ⟨_, rfl⟩
        have k1 : wq.cell? ⟨w.heap.size, j + n / 64, none⟩ = some (u64 (dig (lsh x n j) (j + n / 64))) := by rw [← hwq]; exact g1
        have k2 : wq.frozen? ⟨w.heap.size, j + n / 64, none⟩ = false := by rw [← hwq]; exact g2
        rw [hwq]
        have HWQ := Lib.hid hwq
        clear hwq g0 g1 g2
        go_region
        have hor : bits .or .u64 ((dig (lsh x n j) (j + n / 64) : Nat) : Int) (IntKind.u64.wrap (((dig x j : Nat) : Int) * 2 ^ (n % 64))) = ((dig (lsh x n j) (j + n / 64) ||| dig x j * 2 ^ (n % 64) % B : Nat) : Int) := by
          rw [shl_cast, wrapU]; exact or_cast _ _ (dig_lt _ _) (Nat.mod_lt _ B_pos)
        obtain ⟨s1, s2, s3⟩ := lsh_step x n j
        rw [hor]
        generalize dig (lsh x n j) (j + n / 64) ||| dig x j * 2 ^ (n % 64) % B = d1 at *
        have hw : (wq.setCell ⟨w.heap.size, j + n / 64, none⟩ (u64 d1)).drew = (rowW (mk w m) w.heap.size 0 m (put (lsh x n j) (j + n / 64) d1)).drewN (q + 1) := by
          have := rowW_set (w := mk w m) (b := w.heap.size) (off := 0) (n := m) (v := lsh x n j) (i := j + n / 64) (d := d1) (by omega) s2
          rw [Nat.zero_add] at this
          rw [← this, ← HWQ.out]; rfl
        rw [hw]
        have HT := Lib.hid s1
        clear hw hor s1 k1 k2 HWQ
        generalize put (lsh x n j) (j + n / 64) d1 = V1 at *
        have g1 : (rowW (mk w m) w.heap.size 0 m V1).cell? ⟨w.heap.size, j + n / 64 + 1, none⟩ = some (u64 (dig V1 (j + n / 64 + 1))) := by
          have := hr.cell (u := V1) (i := j + n / 64 + 1) (by omega); rwa [Nat.zero_add] at this
        have g2 : (rowW (mk w m) w.heap.size 0 m V1).frozen? ⟨w.heap.size, j + n / 64 + 1, none⟩ = false := by
          have := hr.free (u := V1) (i := j + n / 64 + 1) (by omega); rwa [Nat.zero_add] at this
        have i4 : ((j : Int) + (n : Int) / 64 + 1).toNat = j + n / 64 + 1 := by omega
        have i5 : (0 : Int) ≤ (j : Int) + (n : Int) / 64 + 1 := by omega
        have i6 : (j : Int) + (n : Int) / 64 + 1 < (m : Int) := by omega
        clear i3
        have hset := rowW_set (w := mk w m) (b := w.heap.size) (off := 0) (n := m) (v := V1) (i := j + n / 64 + 1) (by omega) s3
        rw [HT.out, Nat.zero_add] at hset
        have HSET := Lib.hid hset
        clear hset
        go_wp2
        go_roundw
        case rel => exact ⟨j + 1, q + 1, by omega, by go_num, by rw [shr_cast]; exact congrArg (fun W => World.drewN W (q + 1)) HSET.out⟩
        case measure => simp [intOf]; omega
      · obtain rfl : j = k := by omega
        have hrow := hr.row (lsh x n j)
        have hd : DigsAt ((rowW (mk w m) w.heap.size 0 m (lsh x n j)).drewN q) (some ⟨w.heap.size, 0, none⟩) m m (lsh x n j) :=
          (hrow.digs hxm (by rw [rowW_size, HS.out]; omega) (Nat.le_refl _)).drawn q
        go_wp2_with (first | (go_at_call 175; refine (trim_any _ m m (lsh x n j) _ hd (by omega)).mono ?_; rintro e w' ⟨rfl, rfl⟩))
        go_ret
        rw [← HV.out]
        exact ⟨_, _, rfl, hd.shrink, below_drawn hbel q⟩
end Go.Proofs.YtlncagdekfjinaaGreatDoor
namespace Go.Proofs.YtlncagdekfjinaaGreatDoor
open Go.RowKit Go.Sort Dg
theorem power_any (k : Nat) (hk : k ≤ 1099511627776) (w : World) : Calls Tryz.prog 230 #[.int .i64 k] w (Gives w (2 ^ k)) := by
  have hmk := fun w => mk_run ((k : Int) / 64 + 1) (k / 64 + 1) (by omega) (by omega) w
  have hr := mk_row w (k / 64 + 1)
  have h2 : (mk w (k / 64 + 1)).cell? ⟨w.heap.size, k / 64, none⟩ = some (.int .u64 0) := by
    have := hr (k / 64) (by simp); rw [digs_get (by omega), dig_zero, Nat.zero_add] at this; exact this.1
  have h3 : (mk w (k / 64 + 1)).frozen? ⟨w.heap.size, k / 64, none⟩ = false := by
    have := hr (k / 64) (by simp); rw [Nat.zero_add] at this; exact this.2
  go_enter Tryz.func230, Tryz.ntmps230
  go_wp2
  go_ret
  have hp : 2 ^ k = 2 ^ (k % 64) * B ^ (k / 64) := by rw [B_pow_two, ← Nat.pow_add]; congr 1; omega
  have hlt := two_lt (Nat.mod_lt k (show 64 > 0 by omega))
  have hn : nl (2 ^ k) = k / 64 + 1 := by
    apply nl_eq
    · rw [hp, Nat.pow_succ, Nat.mul_comm (B ^ (k / 64)) B]; exact Nat.mul_lt_mul_of_pos_right hlt (B_pow_pos _)
    · rw [hp]; exact Nat.le_mul_of_pos_left _ (Nat.pow_pos (by omega))
  obtain ⟨s1, s2⟩ := hr.set (i := k / 64) (d := 2 ^ (k % 64)) (u := 2 ^ k) (by omega) hlt (by rw [put_zero, hp])
  rw [Nat.zero_add] at s1
  rw [wrap_two, s1]
  refine ⟨some ⟨w.heap.size, 0, none⟩, k / 64 + 1, by rw [hn]; rfl, ?_, rowW_below (mk_below _ _) (Nat.le_refl _)⟩
  rw [hn]
  exact s2.digs (by rw [← hn]; exact lt_nl _) (by rw [rowW_size, mk_size]; omega) (Nat.le_refl _)
end Go.Proofs.YtlncagdekfjinaaGreatDoor
