/- guess: a digit of a quotient that is not too small. -/
import Derived.Test.YtlncagdekfjinaaGreatDoorDivw
namespace Go.Proofs.YtlncagdekfjinaaGreatDoor
open Go.RowKit Go.Sort Dg
def Enough (x2 x1 x0 y1 y0 t : Nat) : Prop := t < B ∧ ∀ q, q < B → q * (y1 * B + y0) ≤ (x2 * B + x1) * B + x0 → q ≤ t
theorem enough_first {x2 x1 x0 y1 y0 : Nat} (hy1 : 0 < y1) (hx0 : x0 < B) (q : Nat) (h : q * (y1 * B + y0) ≤ (x2 * B + x1) * B + x0) : q ≤ (x2 * B + x1) / y1 := by
  rw [Nat.le_div_iff_mul_le hy1]
  generalize x2 * B + x1 = X at *
  rw [Nat.mul_add, ← Nat.mul_assoc] at h
  rcases Nat.lt_or_ge X (q * y1) with h2 | h2
  · have h3 := Nat.mul_le_mul_right B (show X + 1 ≤ q * y1 from h2)
    rw [Nat.add_mul, Nat.one_mul] at h3
    omega
  · exact h2
theorem enough_less {X x0 y1 y0 d r : Nat} (hd : d * y1 + r = X) (h : r * B + x0 < d * y0) (q : Nat) (hq : q * (y1 * B + y0) ≤ X * B + x0) : q < d := by
  rcases Nat.lt_or_ge q d with h1 | h1
  · exact h1
  · have h2 := Nat.mul_le_mul_right (y1 * B + y0) h1
    rw [Nat.mul_add d, ← Nat.mul_assoc] at h2
    have h3 : (d * y1 + r) * B = X * B := by rw [hd]
    rw [Nat.add_mul] at h3
    omega
theorem guess_step {X y1 y0 D R h l l' bo : Nat} (hD : 1 ≤ D) (hX : D * y1 + R = X) (hl : h * B + l = D * y0) (hs : l' + y0 = l + bo * B) (hb : bo ≤ 1) (hl' : l' < B) :
    (D - 1) * y1 + (R + y1) = X ∧ (h - bo) * B + l' = (D - 1) * y0 ∧ bo ≤ h := by
  obtain ⟨d, rfl⟩ : ∃ d, D = d + 1 := ⟨D - 1, by omega⟩
  rw [Nat.add_mul, Nat.one_mul] at hX hl
  rw [Nat.add_sub_cancel]
  have hbh : bo ≤ h := by
    rcases Nat.eq_zero_or_pos h with h0 | h0
    · subst h0
      rcases (show bo = 0 ∨ bo = 1 by omega) with rfl | rfl
      · omega
      · exfalso; omega
    · omega
  refine ⟨by omega, ?_, hbh⟩
  rw [Nat.sub_mul]
  have := Nat.mul_le_mul_right B hbh
  omega
def gl (y1 y0 x0 : Nat) : Nat → Nat → Nat → Nat
  | 0, d, _ => d
  | f + 1, d, r => if r * B + x0 < d * y0 then (if r + y1 < B then gl y1 y0 x0 f (d - 1) (r + y1) else d - 1) else d
def guessN (x2 x1 x0 y1 y0 : Nat) : Nat :=
  if y1 ≤ x2 then 18446744073709551615 else gl y1 y0 x0 ((x2 * B + x1) / y1 + 1) ((x2 * B + x1) / y1) ((x2 * B + x1) % y1)
def OnWay (y1 y0 x0 d r G : Nat) : Prop := ∃ f, d < f ∧ G = gl y1 y0 x0 f d r
theorem OnWay.stop {y1 y0 x0 d r G : Nat} (h : OnWay y1 y0 x0 d r G) (hc : ¬ (r * B + x0 < d * y0)) : G = d := by
  obtain ⟨f, hf, rfl⟩ := h
  cases f with
  | zero => omega
  | succ f => rw [gl, if_neg hc]
theorem OnWay.go {y1 y0 x0 d r G : Nat} (h : OnWay y1 y0 x0 d r G) (hc : r * B + x0 < d * y0) (hr : r + y1 < B) (hd : 1 ≤ d) : OnWay y1 y0 x0 (d - 1) (r + y1) G := by
  obtain ⟨f, hf, rfl⟩ := h
  cases f with
  | zero => omega
  | succ f => exact ⟨f, by omega, by rw [gl, if_pos hc, if_pos hr]⟩
theorem OnWay.out {y1 y0 x0 d r G : Nat} (h : OnWay y1 y0 x0 d r G) (hc : r * B + x0 < d * y0) (hr : ¬ (r + y1 < B)) : G = d - 1 := by
  obtain ⟨f, hf, rfl⟩ := h
  cases f with
  | zero => omega
  | succ f => rw [gl, if_pos hc, if_neg hr]
theorem guess_any (x2 x1 x0 y1 y0 : Nat) (h2 : x2 < B) (h1 : x1 < B) (h0 : x0 < B) (hy1 : y1 < B) (hy0 : y0 < B) (hp : 0 < y1) (w : World) :
    Calls Tryz.prog 236 #[u64 x2, u64 x1, u64 x0, u64 y1, u64 y0] w fun e w' => (e = .returned (u64 (guessN x2 x1 x0 y1 y0)) ∧ ∃ q, w.drewN q = w') ∧ Enough x2 x1 x0 y1 y0 (guessN x2 x1 x0 y1 y0) := by
  rcases Nat.lt_or_ge x2 y1 with hlt | hge
  · have t1 : ¬ ((y1 : Int) ≤ (x2 : Int)) := by omega
    have t2 : decide ((y1 : Int) ≤ (x2 : Int)) = false := by simp; omega
    have hfirst := fun q hq => enough_first (x2 := x2) (x1 := x1) (x0 := x0) (y1 := y1) (y0 := y0) hp h0 q hq
    have hG : OnWay y1 y0 x0 ((x2 * B + x1) / y1) ((x2 * B + x1) % y1) (guessN x2 x1 x0 y1 y0) := ⟨_, Nat.lt_succ_self _, by rw [guessN, if_neg (by omega)]⟩
    generalize guessN x2 x1 x0 y1 y0 = G at *
    obtain ⟨d0, hd0⟩ : ∃ z, (x2 * B + x1) / y1 = z := ⟨_, rfl⟩
    obtain ⟨r0, hr0⟩ : ∃ z, (x2 * B + x1) % y1 = z := ⟨_, rfl⟩
    have hdr : d0 * y1 + r0 = x2 * B + x1 := by rw [← hd0, ← hr0, Nat.mul_comm]; exact Nat.div_add_mod _ _
    have hr0l : r0 < y1 := by rw [← hr0]; exact Nat.mod_lt _ hp
    have hd0B : d0 < B := by
      rw [← hd0, Nat.div_lt_iff_lt_mul hp]
      have := Nat.mul_le_mul_right B (show x2 + 1 ≤ y1 from hlt)
      rw [Nat.add_mul, Nat.mul_comm y1] at this
      omega
    have hdiv := fun w => div64_any x2 x1 y1 h1 hy1 hlt w
    rw [hd0] at hfirst
    rw [hd0, hr0] at hG
    have HG := Lib.hid hG
    clear hG
    rw [hd0, hr0] at hdiv
    have hmul := fun w => mul64 d0 y0 hd0B hy0 w
    obtain ⟨hi0, hhi0⟩ : ∃ z, d0 * y0 / B = z := ⟨_, rfl⟩
    obtain ⟨lo0, hlo0⟩ : ∃ z, d0 * y0 % B = z := ⟨_, rfl⟩
    have hhl : hi0 * B + lo0 = d0 * y0 := by rw [← hhi0, ← hlo0, Nat.mul_comm]; exact Nat.div_add_mod _ _
    have hlo0B : lo0 < B := by rw [← hlo0]; exact Nat.mod_lt _ B_pos
    have hhi0B : hi0 ≤ 18446744073709551615 := by
      have h3 : hi0 < B := by rw [← hhi0, Nat.div_lt_iff_lt_mul B_pos]; exact Nat.mul_lt_mul'' hd0B hy0
      unfold B at h3; omega
    rw [hhi0, hlo0] at hmul
    have HF := Lib.hid hfirst
    have HD := Lib.hid hdiv
    have HM := Lib.hid hmul
    have HDR := Lib.hid hdr
    have HHL := Lib.hid hhl
    clear hfirst hdiv hmul hdr hhl hd0 hr0 hhi0 hlo0
    go_enter Tryz.func236, Tryz.ntmps236
    go_wp2_with (first | (go_at_call 197; refine (HD.out _).mono ?_; rintro e w' ⟨rfl, q2, rfl⟩) | (go_at_call 191; refine (HM.out _).mono ?_; rintro e w' ⟨rfl, rfl⟩))
    go_loop [11, 12, 13, 14] (fun d r h l => ∃ D R Hh L : Nat, d = u64 D ∧ r = u64 R ∧ h = u64 Hh ∧ l = u64 L ∧ Hid (D * y1 + R = x2 * B + x1) ∧ Hid (Hh * B + L = D * y0) ∧ D < B ∧ R < B ∧ L < B ∧ Hh ≤ 18446744073709551615 ∧ Hid (∀ q, q * (y1 * B + y0) ≤ (x2 * B + x1) * B + x0 → q ≤ D) ∧ Hid (OnWay y1 y0 x0 D R G)) (fun d _ _ _ => (intOf d).toNat)
    case atStart => exact ⟨d0, r0, hi0, lo0, rfl, rfl, rfl, rfl, HDR, HHL, hd0B, by omega, hlo0B, hhi0B, HF, HG⟩
    case round =>
      obtain ⟨D, R, Hh, L, rfl, rfl, rfl, rfl, hX, hl, hDB, hRB, hLB, hHB, hE, hOW⟩ := hrel
      have hDm : D ≤ 18446744073709551615 := by unfold B at hDB; omega
      by_cases hbig : R < Hh ∨ (Hh = R ∧ x0 < L)
      · have hcond : R * B + x0 < D * y0 := by
          rw [← hl.out]
          rcases hbig with h | ⟨h, h'⟩
          · have := Nat.mul_le_mul_right B (show R + 1 ≤ Hh from h)
            rw [Nat.add_mul] at this; omega
          · rw [h]; omega
        have hless : ∀ q, q * (y1 * B + y0) ≤ (x2 * B + x1) * B + x0 → q < D := enough_less hX.out hcond
        have HCOND := Lib.hid hcond
        clear hcond
        have hD1 : 1 ≤ D := by have := hless 0 (by omega); omega
        have HLE : Hid (∀ q, q * (y1 * B + y0) ≤ (x2 * B + x1) * B + x0 → q ≤ D - 1) := fun q hq => by have := hless q hq; omega
        have hbo := ow_le L y0
        have hl' := sb_lt L y0
        have hs := sb_ow (x := L) (z := y0) hLB (Nat.le_of_lt hy0)
        have hsub := fun w => sub64_n L y0 hy0 w
        generalize sb L y0 = l' at *
        generalize ow L y0 = bo at *
        obtain ⟨g1, g2, g3⟩ := guess_step hD1 hX.out hl.out hs hbo hl'
        have G2 := Lib.hid g2
        clear hless hs g2
        by_cases hc1 : R < Hh
        · have b1 : (R : Int) < (Hh : Int) := by omega
          have b2 : decide ((R : Int) < (Hh : Int)) = true := by simpa using b1
          clear hbig
          by_cases hc : R + y1 < B
          · have hm : (R + y1) % B = R + y1 := Nat.mod_eq_of_lt hc
            have hq : (R + y1) / B = 0 := Nat.div_eq_of_lt hc
            have hadd := fun w => add64_n R y1 w
            rw [hm, hq] at hadd
            clear hm hq
            obtain ⟨R', hR'⟩ : ∃ z, R + y1 = z := ⟨_, rfl⟩
            have hon := hOW.out.go HCOND.out hc hD1
            rw [hR'] at hadd g1 hc hon
            have HON := Lib.hid hon
            clear hon
            have hadd' : ∀ w, (callFunc 205 #[.int .u64 (R : Int), .int .u64 (y1 : Int), .int .u64 0]).run Tryz.prog w = .ok (.value (.tuple #[.int .u64 (R' : Int), .int .u64 0])) w := hadd
            have G1 := Lib.hid g1
            clear hadd hR' g1
            go_wp2
            go_round
            case rel => exact ⟨D - 1, R', Hh - bo, l', by go_num, rfl, by go_num, rfl, G1, G2, by omega, hc, hl', by omega, HLE, HON⟩
            case measure => simp [intOf]; omega
          · have hq : (R + y1) / B = 1 := by unfold B at *; omega
            have hadd := fun w => add64_n R y1 w
            rw [hq] at hadd
            obtain ⟨R', hR'⟩ : ∃ z, (R + y1) % B = z := ⟨_, rfl⟩
            rw [hR'] at hadd
            have hadd' : ∀ w, (callFunc 205 #[.int .u64 (R : Int), .int .u64 (y1 : Int), .int .u64 0]).run Tryz.prog w = .ok (.value (.tuple #[.int .u64 (R' : Int), .int .u64 1])) w := hadd
            clear hadd hR' hq g1
            go_wp2
            go_ret
            have hG : G = D - 1 := hOW.out.out HCOND.out hc
            subst hG
            exact ⟨⟨by go_num, _, rfl⟩, by omega, fun q _ hq => HLE.out q hq⟩
        · have hbb : Hh = R ∧ x0 < L := by rcases hbig with h | h <;> omega
          have b1 : ¬ ((R : Int) < (Hh : Int)) := by omega
          have b2 : decide ((R : Int) < (Hh : Int)) = false := by simp; omega
          have b3 : ((Hh : Int) == (R : Int)) = true := by rw [beq_iff_eq]; omega
          have b4 : (x0 : Int) < (L : Int) := by omega
          have b5 : decide ((x0 : Int) < (L : Int)) = true := by simpa using b4
          clear hbb
          clear hbig
          by_cases hc : R + y1 < B
          · have hm : (R + y1) % B = R + y1 := Nat.mod_eq_of_lt hc
            have hq : (R + y1) / B = 0 := Nat.div_eq_of_lt hc
            have hadd := fun w => add64_n R y1 w
            rw [hm, hq] at hadd
            clear hm hq
            obtain ⟨R', hR'⟩ : ∃ z, R + y1 = z := ⟨_, rfl⟩
            have hon := hOW.out.go HCOND.out hc hD1
            rw [hR'] at hadd g1 hc hon
            have HON := Lib.hid hon
            clear hon
            have hadd' : ∀ w, (callFunc 205 #[.int .u64 (R : Int), .int .u64 (y1 : Int), .int .u64 0]).run Tryz.prog w = .ok (.value (.tuple #[.int .u64 (R' : Int), .int .u64 0])) w := hadd
            have G1 := Lib.hid g1
            clear hadd hR' g1
            go_wp2
            go_round
            case rel => exact ⟨D - 1, R', Hh - bo, l', by go_num, rfl, by go_num, rfl, G1, G2, by omega, hc, hl', by omega, HLE, HON⟩
            case measure => simp [intOf]; omega
          · have hq : (R + y1) / B = 1 := by unfold B at *; omega
            have hadd := fun w => add64_n R y1 w
            rw [hq] at hadd
            obtain ⟨R', hR'⟩ : ∃ z, (R + y1) % B = z := ⟨_, rfl⟩
            rw [hR'] at hadd
            have hadd' : ∀ w, (callFunc 205 #[.int .u64 (R : Int), .int .u64 (y1 : Int), .int .u64 0]).run Tryz.prog w = .ok (.value (.tuple #[.int .u64 (R' : Int), .int .u64 1])) w := hadd
            clear hadd hR' hq g1
            go_wp2
            go_ret
            have hG : G = D - 1 := hOW.out.out HCOND.out hc
            subst hG
            exact ⟨⟨by go_num, _, rfl⟩, by omega, fun q _ hq => HLE.out q hq⟩
      · have b1 : ¬ ((R : Int) < (Hh : Int)) := by omega
        have b2 : decide ((R : Int) < (Hh : Int)) = false := by simp; omega
        by_cases hc2 : Hh = R
        · have b3 : ((Hh : Int) == (R : Int)) = true := by rw [beq_iff_eq]; omega
          have b4 : ¬ ((x0 : Int) < (L : Int)) := by omega
          have b5 : decide ((x0 : Int) < (L : Int)) = false := by simp; omega
          have hG : G = D := hOW.out.stop (by
            rw [← hl.out]
            have : Hh ≤ R := by omega
            rcases Nat.lt_or_ge Hh R with h | h
            · have := Nat.mul_le_mul_right B (show Hh + 1 ≤ R from h)
              rw [Nat.add_mul] at this; omega
            · rw [show Hh = R by omega]; omega)
          clear hbig hc2
          subst hG
          go_wp2
          go_ret
          exact ⟨⟨rfl, _, rfl⟩, hDB, fun q _ hq => hE.out q hq⟩
        · have b3 : ((Hh : Int) == (R : Int)) = false := by rw [beq_eq_false_iff_ne]; omega
          have hG : G = D := hOW.out.stop (by
            rw [← hl.out]
            have : Hh ≤ R := by omega
            rcases Nat.lt_or_ge Hh R with h | h
            · have := Nat.mul_le_mul_right B (show Hh + 1 ≤ R from h)
              rw [Nat.add_mul] at this; omega
            · rw [show Hh = R by omega]; omega)
          clear hbig hc2
          subst hG
          go_wp2
          go_ret
          exact ⟨⟨rfl, _, rfl⟩, hDB, fun q _ hq => hE.out q hq⟩
  · have t1 : (y1 : Int) ≤ (x2 : Int) := by omega
    have t2 : decide ((y1 : Int) ≤ (x2 : Int)) = true := by simpa using t1
    go_enter Tryz.func236, Tryz.ntmps236
    go_wp2
    go_ret
    rw [show guessN x2 x1 x0 y1 y0 = 18446744073709551615 by rw [guessN, if_pos hge]]
    exact ⟨⟨rfl, 0, rfl⟩, by unfold B; omega, fun q hq _ => by unfold B at hq; omega⟩
end Go.Proofs.YtlncagdekfjinaaGreatDoor
