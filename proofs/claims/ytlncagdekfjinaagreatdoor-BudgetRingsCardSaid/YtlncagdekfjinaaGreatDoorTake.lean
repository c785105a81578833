/- (limbs).takeMultiple. -/
import Derived.Test.YtlncagdekfjinaaGreatDoorGuess
import Derived.Test.YtlncagdekfjinaaGreatDoorParts
namespace Go.Proofs.YtlncagdekfjinaaGreatDoor
open Go.RowKit Go.Sort Dg
theorem take_guess {X Y n t : Nat} (hn : 2 ≤ n) (hY : Y < B ^ n) (hYp : 0 < Y) (hX : X < B * Y) (hE : Enough (dig X n) (dig X (n - 1)) (dig X (n - 2)) (dig Y (n - 1)) (dig Y (n - 2)) t) : X / Y ≤ t ∧ t < B := by
  refine ⟨hE.2 _ (by rw [Nat.div_lt_iff_lt_mul hYp]; exact hX) ?_, hE.1⟩
  obtain ⟨m, rfl⟩ : ∃ m, n = m + 2 := ⟨n - 2, by omega⟩
  have hXl : X < B ^ (m + 2 + 1) := by
    rw [Nat.pow_succ']; exact Nat.lt_of_lt_of_le hX (Nat.mul_le_mul_left B (Nat.le_of_lt hY))
  have e1 := div_succ X m
  have e2 := div_succ X (m + 1)
  have e3 := div_succ X (m + 2)
  have e4 := div_succ Y m
  have e5 := div_succ Y (m + 1)
  rw [Nat.div_eq_of_lt hXl, Nat.zero_mul, Nat.zero_add] at e3
  rw [show m + 1 + 1 = m + 2 by omega] at e2 e5
  rw [Nat.div_eq_of_lt hY, Nat.zero_mul, Nat.zero_add] at e5
  rw [show m + 2 - 1 = m + 1 by omega, show m + 2 - 2 = m by omega, ← e3, ← e2, ← e1, ← e5, ← e4]
  rw [Nat.le_div_iff_mul_le (B_pow_pos m), Nat.mul_assoc]
  exact Nat.le_trans (Nat.mul_le_mul_left _ (Nat.div_mul_le_self _ _)) (Nat.div_mul_le_self _ _)
theorem take_round {X Y n t h X1 X2 c1 h2 c2 : Nat} (hY : 0 < Y) (hX1 : X1 + h * B ^ n + t * Y = X + 1 * B ^ (n + 1)) (ht : X / Y ≤ t) (hl : X1 < B ^ n) (hh : h < B)
    (hadd : X2 + c1 * B ^ n = X1 + Y) (hc : h2 + c2 * B = h + c1) (hc2 : c2 ≤ 1) :
    1 ≤ t ∧ X / Y ≤ t - 1 ∧ X2 + h2 * B ^ n + (t - 1) * Y = X + (1 - c2) * B ^ (n + 1) := by
  have hlt : X1 + h * B ^ n < B ^ (n + 1) := by
    have := Nat.mul_le_mul_right (B ^ n) (show h + 1 ≤ B from hh)
    rw [Nat.add_mul, Nat.one_mul, ← Nat.pow_succ', Nat.succ_eq_add_one] at this
    omega
  have h3 : X < t * Y := by omega
  have h4 : X / Y < t := by rw [Nat.div_lt_iff_lt_mul hY]; exact h3
  have h6 := Nat.zero_le (X / Y)
  refine ⟨by generalize X / Y = q at *; omega, by generalize X / Y = q at *; omega, ?_⟩
  obtain ⟨u, rfl⟩ : ∃ u, t = u + 1 := ⟨t - 1, by omega⟩
  rw [Nat.add_sub_cancel]
  rw [Nat.add_mul, Nat.one_mul] at hX1
  have h5 : (h2 + c2 * B) * B ^ n = (h + c1) * B ^ n := by rw [hc]
  rw [Nat.add_mul, Nat.add_mul, Nat.mul_assoc, ← Nat.pow_succ', Nat.succ_eq_add_one] at h5
  rw [Nat.sub_mul]
  rcases (by omega : c2 = 0 ∨ c2 = 1) with rfl | rfl <;> omega
theorem take_pos {X Y n t h X1 : Nat} (hX1 : X1 + h * B ^ n + t * Y = X + 1 * B ^ (n + 1)) (hl : X1 < B ^ n) (hh : h < B) : 1 ≤ t := by
  rcases Nat.eq_zero_or_pos t with rfl | h1
  · have := Nat.mul_le_mul_right (B ^ n) (show h + 1 ≤ B from hh)
    rw [Nat.add_mul, Nat.one_mul, ← Nat.pow_succ', Nat.succ_eq_add_one] at this
    omega
  · exact h1
theorem take_end {X Y n t h X1 : Nat} (hY : 0 < Y) (hX1 : X1 + h * B ^ n + t * Y = X + 0 * B ^ (n + 1)) (ht : X / Y ≤ t) : t = X / Y ∧ X1 + h * B ^ n = X % Y := by
  rw [Nat.zero_mul, Nat.add_zero] at hX1
  have h1 : t ≤ X / Y := by rw [Nat.le_div_iff_mul_le hY]; omega
  have h2 : t = X / Y := Nat.le_antisymm h1 ht
  refine ⟨h2, ?_⟩
  have := Nat.div_add_mod' X Y
  rw [h2] at hX1
  generalize X / Y * Y = q at *
  omega
theorem takeMultiple_any (b off n cap X : Nat) (ay : Option Addr) (capy Y : Nat) (w : World) (hr : Row w b off (n + 1) X) (hn2 : 2 ≤ n) (hn : n ≤ 68719476776) (hcap : n + 1 ≤ cap)
    (hy : DigsAt w ay n capy Y) (hsep : ∀ a, ay = some a → n ≠ 0 → a.block ≠ b) (htop : 0 < dig Y (n - 1)) (hX : X < B * Y) :
    Calls Tryz.prog 229 #[.slice (some ⟨b, off, none⟩) ((n + 1 : Nat)) cap, .slice ay n capy] w fun e w' =>
      e = .returned (u64 (X / Y)) ∧ ∃ q, (rowW w b off (n + 1) (X % Y)).drewN q = w' := by
  have hYp : 0 < Y := by
    rcases Nat.eq_zero_or_pos Y with h | h
    · subst h; rw [dig_zero] at htop; omega
    · exact h
  have hXl : X < B ^ (n + 1) := by rw [Nat.pow_succ']; exact Nat.lt_of_lt_of_le hX (Nat.mul_le_mul_left B (Nat.le_of_lt hy.lt))
  obtain ⟨b2, o2, rfl, hb2, hc2⟩ := hy.cells (by omega)
  have hcx : ∀ i, i < n + 1 → w.cell? ⟨b, off + i, none⟩ = some (u64 (dig X i)) := fun i hi => by
    have := (hr i (by simpa using hi)).1; rwa [digs_get hi] at this
  have f1 := hcx n (by omega)
  have f2 := hcx (n - 1) (by omega)
  have f3 := hcx (n - 2) (by omega)
  have f4 := hc2 (n - 1) (by omega)
  have f5 := hc2 (n - 2) (by omega)
  have i1 : ((n : Int) - 1).toNat = n - 1 := by omega
  have i2 : ((n : Int) - 2).toNat = n - 2 := by omega
  have i3 : (0 : Int) ≤ (n : Int) - 1 := by omega
  have i4 : (0 : Int) ≤ (n : Int) - 2 := by omega
  have i5 : (n : Int) - 1 < (n : Int) := by omega
  have i6 : (n : Int) - 2 < (n : Int) := by omega
  have i7 : (n : Int) - 1 < (n : Int) + 1 := by omega
  have i8 : (n : Int) - 2 < (n : Int) + 1 := by omega
  have i9 : (n : Int) < (n : Int) + 1 := by omega
  have j1 : IntKind.i64.wrap ((n : Int) - 1) = (n : Int) - 1 := IntWalk.i64_in _ (by omega)
  have j2 : IntKind.i64.wrap ((n : Int) - 2) = (n : Int) - 2 := IntWalk.i64_in _ (by omega)
  have hg := fun w => guess_any (dig X n) (dig X (n - 1)) (dig X (n - 2)) (dig Y (n - 1)) (dig Y (n - 2)) (dig_lt _ _) (dig_lt _ _) (dig_lt _ _) (dig_lt _ _) (dig_lt _ _) htop w
  obtain ⟨_, _, _, ⟨_, hE⟩, _⟩ := hg w []
  obtain ⟨hqt, htB⟩ := take_guess hn2 hy.lt hYp hX hE
  have hg' := fun w => (hg w).mono fun _ _ h => h.1
  generalize guessN (dig X n) (dig X (n - 1)) (dig X (n - 2)) (dig Y (n - 1)) (dig Y (n - 2)) = t at *
  have HG := Lib.hid hg'
  have hrl := hr.low n (by omega)
  have hXm : X % B ^ n < B ^ n := Nat.mod_lt _ (B_pow_pos n)
  have hyd := hy
  have HSEP := Lib.hid hsep
  have HC2 := Lib.hid hc2
  have htI : t ≤ 18446744073709551615 := by unfold B at htB; omega
  clear hg hg' hE hc2 hcx hsep
  go_enter Tryz.func229, Tryz.ntmps229
  go_wp2
  go_quiet ((go_at_call 236; exact quiet_drawn (HG.out _)))
  clear f2 f3 f4 f5
  go_wp2_with fail
  obtain ⟨w2, ew2⟩ : ∃ w2, w.drewN nq = w2 := ⟨_, rfl⟩
  have hr2 : Row w2 b off (n + 1) X := by rw [← ew2]; exact hr
  have hy2 : DigsAt w2 (some ⟨b2, o2, none⟩) n capy Y := by rw [← ew2]; exact hyd.drawn nq
  have hrl2 := hr2.low n (by omega)
  have f1' : w2.cell? ⟨b, off + n, none⟩ = some (u64 (dig X n)) := by rw [← ew2]; exact f1
  have HFREE := Lib.hid (hr2.free (u := X) (i := n) (by omega))
  have HC3 : Hid (∀ i, i < n → w2.cell? ⟨b2, o2 + i, none⟩ = some (u64 (dig Y i))) := by rw [← ew2]; exact HC2
  rw [ew2]
  have hend : rowW w2 b off (n + 1) (X % Y) = (rowW w b off (n + 1) (X % Y)).drewN nq := by rw [← ew2]; rfl
  clear ew2 f1 hr hrl hyd hy
  refine (loseTimes_any b off n cap (X % B ^ n) (some ⟨b2, o2, none⟩) capy Y t w2 hrl2 hXm (by omega) hy2 HSEP.out htB).mono ?_
  rintro e w' ⟨c, X1, rfl, hc, hX1, hval, rfl⟩
  have g1 : (rowW w2 b off n X1).cell? ⟨b, off + n, none⟩ = some (u64 (dig X n)) := (rowW_other (.inr (.inr (Nat.le_refl _)))).trans f1'
  have hs := sb_ow (x := dig X n) (z := c) (dig_lt _ _) (Nat.le_of_lt hc)
  have hsub := fun w => sub64_n (dig X n) c hc w
  have hol := ow_le (dig X n) c
  have hsl := sb_lt (dig X n) c
  generalize sb (dig X n) c = h0 at *
  generalize ow (dig X n) c = s0 at *
  have hXs := mod_succ X n
  rw [Nat.mod_eq_of_lt hXl] at hXs
  have hinv : X1 + h0 * B ^ n + t * Y = X + s0 * B ^ (n + 1) := by
    rw [hXs, Nat.pow_succ, Nat.mul_comm t Y]
    have : (h0 + c) * B ^ n = (dig X n + s0 * B) * B ^ n := by rw [hs]
    rw [Nat.add_mul, Nat.add_mul] at this
    have e2 : s0 * (B ^ n * B) = s0 * B * B ^ n := by rw [Nat.mul_comm (B ^ n), Nat.mul_assoc]
    omega
  have HI := Lib.hid hinv
  have HQ := Lib.hid hqt
  have HF1 := Lib.hid f1'
  have hbb : b2 ≠ b := HSEP.out _ rfl (by omega)
  clear hinv hXs hs hval f1' hqt
  go_wp2
  go_loopw [6, 8, 9] (fun v6 v8 v9 wr => ∃ t h s X1 : Nat, v6 = u64 t ∧ v8 = u64 h ∧ v9 = u64 s ∧ t < B ∧ h < B ∧ s ≤ 1 ∧ X1 < B ^ n ∧ Hid (X1 + h * B ^ n + t * Y = X + s * B ^ (n + 1)) ∧ Hid (X / Y ≤ t) ∧ wr = rowW w2 b off n X1) (fun v6 _ _ _ => (intOf v6).toNat)
  case atStart => exact ⟨t, h0, s0, X1, rfl, rfl, rfl, htB, hsl, hol, hX1, HI, HQ, rfl⟩
  case round =>
    clear HI HQ htB hsl hol hX1 g1 hsub htI
    obtain ⟨t, h, s, X1, rfl, rfl, rfl, htB, hhB, hs1, hX1, HI, HQ, rfl⟩ := hrel
    have g1 : (rowW w2 b off n X1).cell? ⟨b, off + n, none⟩ = some (Go.Proofs.YtlncagdekfjinaaGreatDoor.u64 (dig X n)) := (rowW_other (.inr (.inr (Nat.le_refl _)))).trans HF1.out
    have hfree : (rowW w2 b off n X1).frozen? ⟨b, off + n, none⟩ = false := by
      have := HFREE.out; unfold rowW at this ⊢; rw [frozen?_putRow] at this ⊢; exact this
    by_cases hs0 : s = 0
    · subst hs0
      obtain ⟨h1, h2⟩ := take_end hYp HI.out HQ.out
      go_wp2
      go_ret
      exact ⟨by show Ending.returned (Go.Proofs.YtlncagdekfjinaaGreatDoor.u64 t) = _; rw [h1], nq, by rw [← hend, ← h2]; exact (rowW_top hr2 hX1 hhB hXl).symm⟩
    · obtain rfl : s = 1 := by omega
      have ht1 := take_pos HI.out hX1 hhB
      have ht2 : IntKind.u64.wrap ((t : Int) - 1) = ((t - 1 : Nat) : Int) := by
        rw [show (t : Int) - 1 = ((t - 1 : Nat) : Int) by omega, wrapU, Nat.mod_eq_of_lt (by omega)]
      go_wp2
      go_loopw [10, 62] (fun c i wr => ∃ k cn X' : Nat, k ≤ n ∧ i = .int .i64 k ∧ c = Go.Proofs.YtlncagdekfjinaaGreatDoor.u64 cn ∧ cn ≤ 1 ∧ X' < B ^ n ∧ Hid (X' + cn * B ^ k = X1 + Y % B ^ k) ∧ wr = rowW w2 b off n X') (fun _ i _ => n - (intOf i).toNat)
      case atStart => exact ⟨0, 0, X1, Nat.zero_le _, rfl, rfl, Nat.zero_le _, hX1, by simp [Hid, Nat.mod_one], rfl⟩
      case round =>
        obtain ⟨k, cn, X', hk, rfl, rfl, hc1, hX', hval, rfl⟩ := hrel
        by_cases hlt : k < n
        · have h1 : (rowW w2 b off n X').cell? ⟨b2, o2 + k, none⟩ = some (Go.Proofs.YtlncagdekfjinaaGreatDoor.u64 (dig Y k)) := (rowW_other (.inl hbb)).trans (HC3.out k hlt)
          have h2 : (rowW w2 b off n X').cell? ⟨b, off + k, none⟩ = some (Go.Proofs.YtlncagdekfjinaaGreatDoor.u64 (dig X' k)) := hrl2.cell (by omega)
          have h3 : (rowW w2 b off n X').frozen? ⟨b, off + k, none⟩ = false := hrl2.free (by omega)
          have hadd := fun w => add64 (dig X' k) (dig Y k) cn hc1 w
          go_wp2
          go_roundw
          case rel =>
            refine ⟨k + 1, (dig X' k + dig Y k + cn) / B, put X' k ((dig X' k + dig Y k + cn) % B), by omega, by go_num, ?_, ?_, ?_, ?_, ?_⟩
            · rfl
            · have := dig_le X' k; have := dig_le Y k; unfold B; omega
            · exact put_lt hX' (by omega) (Nat.mod_lt _ B_pos)
            · exact add_step hval.out
            · have h := rowW_set (w := w2) (b := b) (off := off) (n := n) (v := X') (i := k) (d := (dig X' k + dig Y k + cn) % B) (by omega) (Nat.mod_lt _ B_pos)
              exact h
          case measure => simp [intOf]; omega
        · obtain rfl : k = n := by omega
          have hval' : X' + cn * B ^ k = X1 + Y := by have := hval.out; rwa [Nat.mod_eq_of_lt hy2.lt] at this
          have Hv := Lib.hid hval'
          clear hval' hval
          have hadd := fun w => add64_n h cn w
          have hd := Nat.div_add_mod' (h + cn) B
          have hm := Nat.mod_lt (h + cn) B_pos
          generalize (h + cn) % B = h2 at *
          generalize (h + cn) / B = c2 at *
          have hc2 : c2 ≤ 1 := by
            rcases Nat.lt_or_ge c2 2 with h | h
            · omega
            · have h7 := Nat.mul_le_mul_right B h; have := B_two; have h8 : h2 + c2 * B < 2 * B := by (rw [Nat.add_comm, hd]; omega)
              omega
          obtain ⟨_, r2, r3⟩ := take_round hYp HI.out HQ.out hX1 hhB Hv.out (by rw [Nat.add_comm]; exact hd) hc2
          have R2 := Lib.hid r2
          have R3 := Lib.hid r3
          clear r2 r3 hd
          rcases (by omega : c2 = 0 ∨ c2 = 1) with rfl | rfl
          · go_wp2
            go_roundw
            case rel => exact ⟨t - 1, h2, 1, X', by go_num, rfl, by go_num, by omega, hm, by omega, hX', R3.out, R2.out, rfl⟩
            case measure => simp [intOf]; omega
          · go_wp2
            go_roundw
            case rel => exact ⟨t - 1, h2, 0, X', by go_num, rfl, by go_num, by omega, hm, by omega, hX', R3.out, R2.out, rfl⟩
            case measure => simp [intOf]; omega
end Go.Proofs.YtlncagdekfjinaaGreatDoor
