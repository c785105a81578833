/- Numbers of package num, what is asked of them: word, power, trim, isOne, compare. -/
import Derived.Test.YtlncagdekfjinaaGreatDoorBase
import Derived.Test.YtlncagdekfjinaaGreatDoorRoom
namespace Go.Proofs.YtlncagdekfjinaaGreatDoor
open Go.RowKit Go.Sort Dg
theorem trim_any (a : Option Addr) (m cap Y : Nat) (w : World) (h : DigsAt w a m cap Y) (hm : m ≤ 1152921504606846976) :
    Calls Tryz.prog 175 #[.slice a m cap] w fun e w' => e = .returned (.slice a (nl Y) cap) ∧ w = w' := by
  have hfit := h.fit
  go_enter Tryz.func175, Tryz.ntmps175
  go_wp2
  go_loop [0] (fun s => ∃ k : Nat, k ≤ m ∧ nl Y ≤ k ∧ s = .slice a k cap) (fun s => match s with | .slice _ n _ => n | _ => 0)
  case atStart => exact ⟨m, Nat.le_refl _, nl_le h.lt, rfl⟩
  case round =>
    obtain ⟨k, hk, hl, rfl⟩ := hrel
    by_cases hk0 : k = 0
    · have hY : nl Y = 0 := by omega
      subst hk0
      rw [hY]
      go_wp2
      go_ret
      exact ⟨rfl, rfl⟩
    · obtain ⟨b, off, rfl, hb, hc⟩ := h.cells (by omega)
      have hk1 : 0 < k := by omega
      have hc1 : w.cell? ⟨b, off + (k - 1), none⟩ = some (u64 (dig Y (k - 1))) := hc (k - 1) (by omega)
      have e1 : ((k : Int) - 1).toNat = k - 1 := by omega
      clear hc
      by_cases hd : dig Y (k - 1) = 0
      · have hlt : nl Y ≤ k - 1 := by
          rcases Nat.lt_or_ge (k - 1) (nl Y) with h1 | h1
          · by_cases hy : Y = 0
            · subst hy; simp [nl_zero] at h1
            · exact absurd hd (by rw [show k - 1 = nl Y - 1 by omega]; exact dig_top hy)
          · exact h1
        have hc2 : w.cell? ⟨b, off + (k - 1), none⟩ = some (.int .u64 0) := by rw [hc1, hd]; rfl
        clear hc1 hd hk0
        go_wp2
        go_round
        case rel => exact ⟨k - 1, by omega, by omega, rfl⟩
        case measure => simp; omega
      · have hd1 : (((dig Y (k - 1) : Nat) : Int) == 0) = false := by rw [beq_eq_false_iff_ne]; omega
        have hlt : nl Y = k := by
          rcases Nat.lt_or_ge (k - 1) (nl Y) with h1 | h1
          · omega
          · exact absurd (dig_big (Nat.lt_of_lt_of_le (lt_nl Y) (Nat.pow_le_pow_right B_pos h1))) hd
        have Hl := Lib.hid hlt
        clear hlt hd hk0
        go_wp2
        go_ret
        exact ⟨by rw [Hl.out]; rfl, rfl⟩
theorem word_room (n : Nat) (hn : n < B) (w : World) : Calls Tryz.prog 170 #[u64 n] w (GivesR w n) := by
  by_cases h0 : n = 0
  · subst h0
    go_enter Tryz.func170, Tryz.ntmps170
    go_wp2
    go_ret
    exact ⟨none, 0, rfl, DigsAt.zero _ _ _, Below.refl _ _, Room.nil _ _⟩
  · have ht : ((n : Int) == 0) = false := by rw [beq_eq_false_iff_ne]; omega
    have hl : nl n = 1 := by have := nl_pos h0; have := nl_le (n := 1) (v := n) (by simpa using hn); omega
    go_enter Tryz.func170, Tryz.ntmps170
    go_wp2
    go_ret
    refine ⟨some ⟨w.heap.size, 0, none⟩, 1, by rw [hl]; rfl, ?_, by go_grown, .inr ⟨w.heap.size, _, rfl, Nat.le_refl _, heap_alloc_new w _, rfl, by unfold maxLen; omega⟩⟩
    rw [hl]
    refine ⟨by simpa using hn, Nat.le_refl _, fun _ => ⟨w.heap.size, 0, rfl, by simp, fun i hi => ?_⟩⟩
    obtain rfl : i = 0 := by omega
    rw [dig_one, Nat.mod_eq_of_lt hn]
    simp [go_sem]
theorem word_any (n : Nat) (hn : n < B) (w : World) : Calls Tryz.prog 170 #[u64 n] w (Gives w n) := (word_room n hn w).mono fun _ _ h => h.gives
theorem isOne_any (a : Option Addr) (cap x : Nat) (w : World) (h : DigsAt w a (nl x) cap x) :
    Calls Tryz.prog 172 #[.slice a (nl x) cap] w fun e w' => e = .returned (.bool (decide (x = 1))) ∧ w = w' := by
  have hone : nl 1 = 1 := by decide
  by_cases h1 : nl x = 1
  · obtain ⟨b, off, rfl, hb, hc⟩ := h.cells (by omega)
    have hx : x < B := by have := lt_nl x; rw [h1] at this; simpa using this
    have hc1 : w.cell? ⟨b, off, none⟩ = some (u64 x) := by have := hc 0 (by omega); rwa [dig_one, Nat.mod_eq_of_lt hx] at this
    rw [h1]
    clear hc h1
    by_cases hx1 : x = 1
    · subst hx1
      go_enter Tryz.func172, Tryz.ntmps172
      go_wp2
      go_ret
      exact ⟨rfl, rfl⟩
    · have ht : ((x : Int) == 1) = false := by rw [beq_eq_false_iff_ne]; omega
      have hd : decide (x = 1) = false := by simp [hx1]
      rw [hd]
      go_enter Tryz.func172, Tryz.ntmps172
      go_wp2
      go_ret
      exact ⟨rfl, rfl⟩
  · have hd : decide (x = 1) = false := by simp; rintro rfl; exact h1 hone
    have ht : (((nl x : Nat) : Int) == 1) = false := by rw [beq_eq_false_iff_ne]; omega
    rw [hd]
    clear hd
    generalize nl x = k at *
    go_enter Tryz.func172, Tryz.ntmps172
    go_wp2
    go_ret
    exact ⟨rfl, rfl⟩
theorem isNaN_int (x : Int) (w : World) : Calls Tryz.prog 187 #[.int .i64 x] w fun e w' => e = .returned (.bool false) ∧ w = w' := by
  go_enter Tryz.func187, Tryz.ntmps187
  go_wp2
  go_ret
  exact ⟨rfl, rfl⟩
theorem isNaN_u64 (x : Int) (w : World) : Calls Tryz.prog 213 #[.int .u64 x] w fun e w' => e = .returned (.bool false) ∧ w = w' := by
  go_enter Tryz.func213, Tryz.ntmps213
  go_wp2
  go_ret
  exact ⟨rfl, rfl⟩
theorem cmp_int (x y : Nat) (w : World) : Calls Tryz.prog 131 #[.int .i64 x, .int .i64 y] w fun e w' => e = .returned (.int .i64 (cmpN x y)) ∧ w = w' := by
  rcases Nat.lt_trichotomy x y with h | h | h
  · have h1 : (x : Int) < y := by omega
    rw [cmpN_lt h]
    go_enter Tryz.func131, Tryz.ntmps131
    go_wp2_with (first | (go_at_call 187; refine (isNaN_int _ _).mono ?_; rintro e w' ⟨rfl, rfl⟩))
    go_ret
    exact ⟨rfl, rfl⟩
  · subst h
    rw [cmpN_eq rfl]
    go_enter Tryz.func131, Tryz.ntmps131
    go_wp2_with (first | (go_at_call 187; refine (isNaN_int _ _).mono ?_; rintro e w' ⟨rfl, rfl⟩))
    go_ret
    exact ⟨rfl, rfl⟩
  · have h1 : (y : Int) < x := by omega
    rw [cmpN_gt h]
    go_enter Tryz.func131, Tryz.ntmps131
    go_wp2_with (first | (go_at_call 187; refine (isNaN_int _ _).mono ?_; rintro e w' ⟨rfl, rfl⟩))
    go_ret
    exact ⟨rfl, rfl⟩
theorem cmp_u64 (x y : Nat) (w : World) : Calls Tryz.prog 188 #[u64 x, u64 y] w fun e w' => e = .returned (.int .i64 (cmpN x y)) ∧ w = w' := by
  rcases Nat.lt_trichotomy x y with h | h | h
  · have h1 : (x : Int) < y := by omega
    rw [cmpN_lt h]
    go_enter Tryz.func188, Tryz.ntmps188
    go_wp2_with (first | (go_at_call 213; refine (isNaN_u64 _ _).mono ?_; rintro e w' ⟨rfl, rfl⟩))
    go_ret
    exact ⟨rfl, rfl⟩
  · subst h
    rw [cmpN_eq rfl]
    go_enter Tryz.func188, Tryz.ntmps188
    go_wp2_with (first | (go_at_call 213; refine (isNaN_u64 _ _).mono ?_; rintro e w' ⟨rfl, rfl⟩))
    go_ret
    exact ⟨rfl, rfl⟩
  · have h1 : (y : Int) < x := by omega
    rw [cmpN_gt h]
    go_enter Tryz.func188, Tryz.ntmps188
    go_wp2_with (first | (go_at_call 213; refine (isNaN_u64 _ _).mono ?_; rintro e w' ⟨rfl, rfl⟩))
    go_ret
    exact ⟨rfl, rfl⟩
theorem compare_any (a b : Option Addr) (ca cb x y : Nat) (w : World) (hx : DigsAt w a (nl x) ca x) (hy : DigsAt w b (nl y) cb y) (hm : nl x ≤ 1152921504606846976) :
    Calls Tryz.prog 132 #[.slice a (nl x) ca, .slice b (nl y) cb] w fun e w' => e = .returned (.int .i64 (cmpN x y)) ∧ ∃ q, w.drewN q = w' := by
  by_cases hn : nl x = nl y
  · have ht : (((nl x : Nat) : Int) != (nl x : Nat)) = false := by simp
    have hxl := lt_nl x
    have hyl := lt_nl y
    rw [← hn] at hy hyl ⊢
    clear hn
    generalize nl x = k at *
    go_enter Tryz.func132, Tryz.ntmps132
    go_wp2
    go_loopw [5] (fun i wr => ∃ j q : Nat, j ≤ k ∧ i = .int .i64 ((j : Int) - 1) ∧ Hid (x / B ^ j = y / B ^ j) ∧ wr = w.drewN q) (fun i _ => (intOf i + 1).toNat)
    case atStart => exact ⟨k, 0, Nat.le_refl _, rfl, by unfold Hid; rw [Nat.div_eq_of_lt hxl, Nat.div_eq_of_lt hyl], rfl⟩
    case round =>
      obtain ⟨j, q, hj, rfl, hv, rfl⟩ := hrel
      by_cases hj0 : j = 0
      · subst hj0
        go_wp2
        go_ret
        exact ⟨ret_int (cmpN_eq (by simpa using hv.out)).symm, q, rfl⟩
      · obtain ⟨b1, o1, rfl, hb1, hc1⟩ := hx.cells (by omega)
        obtain ⟨b2, o2, rfl, hb2, hc2⟩ := hy.cells (by omega)
        have g1 := hc1 (j - 1) (by omega)
        have g2 := hc2 (j - 1) (by omega)
        have e1 : ((j : Int) - 1).toNat = j - 1 := by omega
        have hj1 : (0 : Int) ≤ (j : Int) - 1 := by omega
        have hj2 : (j : Int) - 1 < (k : Int) := by omega
        have hs := div_succ x (j - 1)
        have hs' := div_succ y (j - 1)
        rw [show j - 1 + 1 = j by omega] at hs hs'
        have hlt1 : dig x (j - 1) < dig y (j - 1) → x < y := lt_of_dig (by rw [show j - 1 + 1 = j by omega]; exact hv.out)
        have hlt2 : dig y (j - 1) < dig x (j - 1) → y < x := lt_of_dig (by rw [show j - 1 + 1 = j by omega]; exact hv.out.symm)
        have hvn : dig x (j - 1) = dig y (j - 1) → x / B ^ (j - 1) = y / B ^ (j - 1) := fun h => by rw [hs, hs', h, hv.out]
        have H1 := Lib.hid hlt1
        have H2 := Lib.hid hlt2
        have H3 := Lib.hid hvn
        clear hc1 hc2 hs hs' hlt1 hlt2 hvn hv hj0
        obtain ⟨dx, hdx⟩ : ∃ d, dig x (j - 1) = d := ⟨_, rfl⟩
        obtain ⟨dy, hdy⟩ : ∃ d, dig y (j - 1) = d := ⟨_, rfl⟩
        rw [hdx] at g1 H1 H2 H3
        rw [hdy] at g2 H1 H2 H3
        clear hdx hdy
        by_cases hd : dx = dy
        · have hv := H3.out hd
          subst hd
          have tt : ((dx : Int) != (dx : Int)) = false := by simp
          clear H1 H2 H3
          have HV := Lib.hid hv
          clear hv
          go_wp2
          go_quiet (fail)
          go_wp2
          go_roundw
          case rel => exact ⟨j - 1, _, by omega, by go_num, HV, rfl⟩
          case measure => simp [intOf]; omega
        · have tt : ((dx : Int) != (dy : Int)) = true := by rw [bne_iff_ne]; omega
          have hc : cmpN dx dy = cmpN x y := by
            rcases Nat.lt_or_gt_of_ne hd with h | h
            · rw [cmpN_lt h, cmpN_lt (H1.out h)]
            · rw [cmpN_gt h, cmpN_gt (H2.out h)]
          have HC := Lib.hid hc
          clear H1 H2 H3 hd hc
          go_wp2
          go_quiet (fail)
          rw [World.drewN_drewN]
          go_wp2
          go_quiet ((go_at_call 188; exact quiet_at (cmp_u64 _ _ _) ⟨_, rfl⟩))
          go_wp2
          go_ret
          exact ⟨ret_int HC.out, _, (World.drewN_drewN ..).symm⟩
  · have ht : (((nl x : Nat) : Int) != (nl y : Nat)) = true := by rw [bne_iff_ne]; omega
    have hc : cmpN (nl x) (nl y) = cmpN x y := by
      rcases Nat.lt_or_gt_of_ne hn with h | h
      · rw [cmpN_lt h, cmpN_lt (lt_of_nl h)]
      · rw [cmpN_gt h, cmpN_gt (lt_of_nl h)]
    rw [← hc]
    clear hx hy hc hn hm
    generalize nl x = k at *
    generalize nl y = l at *
    go_enter Tryz.func132, Tryz.ntmps132
    go_wp2_with (first | (go_at_call 131; refine (cmp_int _ _ _).mono ?_; rintro e w' ⟨rfl, rfl⟩))
    go_ret
    exact ⟨rfl, 0, rfl⟩
end Go.Proofs.YtlncagdekfjinaaGreatDoor
