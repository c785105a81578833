/- (limbs).divideWord. -/
import Derived.Test.YtlncagdekfjinaaGreatDoorDivw
import Derived.Test.YtlncagdekfjinaaGreatDoorLow
namespace Go.Proofs.YtlncagdekfjinaaGreatDoor
open Go.RowKit Go.Sort Dg
def qrow (x d j : Nat) : Nat := x / B ^ j / d * B ^ j
theorem qrow_step {x d j : Nat} (hd : 0 < d) :
    put (qrow x d (j + 1)) j ((x / B ^ (j + 1) % d * B + dig x j) / d) = qrow x d j ∧ (x / B ^ (j + 1) % d * B + dig x j) / d < B ∧
    (x / B ^ (j + 1) % d * B + dig x j) % d = x / B ^ j % d ∧ x / B ^ (j + 1) % d < d := by
  have hr := Nat.mod_lt (x / B ^ (j + 1)) hd
  have h1 := div_succ x j
  have h2 := Nat.mod_add_div (x / B ^ (j + 1)) d
  have hdl := dig_lt x j
  unfold qrow
  generalize x / B ^ (j + 1) = N at *
  rw [h1]
  generalize dig x j = e at *
  have hq : (N * B + e) / d = N / d * B + (N % d * B + e) / d := by
    have : N * B + e = N % d * B + e + d * (N / d * B) := by
      conv => lhs; rw [← h2]
      rw [Nat.add_mul, Nat.mul_assoc]; omega
    rw [this, Nat.add_mul_div_left _ _ hd, Nat.add_comm]
  have hm : (N * B + e) % d = (N % d * B + e) % d := by
    have : N * B + e = N % d * B + e + d * (N / d * B) := by
      conv => lhs; rw [← h2]
      rw [Nat.add_mul, Nat.mul_assoc]; omega
    rw [this, Nat.add_mul_mod_self_left]
  have ht : (N % d * B + e) / d < B := by
    rw [Nat.div_lt_iff_lt_mul hd]
    have h4 := Nat.mul_le_mul_right B (show N % d + 1 ≤ d from hr)
    rw [Nat.add_mul, Nat.mul_comm d B] at h4
    omega
  refine ⟨?_, ht, hm.symm, hr⟩
  rw [hq]
  have h5 := put_add (N / d * B ^ (j + 1)) j ((N % d * B + e) / d)
  have h6 : dig (N / d * B ^ (j + 1)) j = 0 := dig_mul_pow_low (by omega)
  rw [h6, Nat.zero_mul, Nat.add_zero] at h5
  rw [h5, Nat.add_mul, Nat.pow_succ, Nat.mul_comm (B ^ j) B, Nat.mul_assoc]
theorem divideWord_any (a : Option Addr) (ca x d : Nat) (w : World) (h : DigsAt w a (nl x) ca x) (hn : nl x ≤ 68719476736) (hd : 0 < d) (hdB : d < B) :
    Calls Tryz.prog 165 #[.slice a (nl x) ca, u64 d] w fun e w' =>
      ∃ a' c', e = .returned (.tuple #[.slice a' (nl (x / d)) c', u64 (x % d)]) ∧ DigsAt w' a' (nl (x / d)) c' (x / d) ∧ Below w.heap.size w w' := by
  have hxl := lt_nl x
  have hqn : nl (x / d) ≤ nl x := nl_mono (Nat.div_le_self _ _)
  have HQN := Lib.hid hqn
  clear hqn
  generalize nl x = n at *
  have hmk := fun w => mk_run (n : Int) n rfl (by omega) w
  have hr := mk_row w n
  have hsz := mk_size w n
  have HB := Lib.hid (mk_below w n)
  have HS := Lib.hid hsz
  clear hsz
  go_enter Tryz.func165, Tryz.ntmps165
  go_wp2
  go_loopw [7, 8] (fun r i wr => ∃ j q : Nat, j ≤ n ∧ i = .int .i64 ((j : Int) - 1) ∧ r = u64 (x / B ^ j % d) ∧ wr = (rowW (mk w n) w.heap.size 0 n (qrow x d j)).drewN q) (fun _ i _ => (intOf i + 1).toNat)
  case atStart =>
    refine ⟨n, 0, Nat.le_refl _, rfl, ?_, ?_⟩
    · rw [Nat.div_eq_of_lt hxl, Nat.zero_mod]; rfl
    · unfold qrow; rw [Nat.div_eq_of_lt hxl, Nat.zero_div, Nat.zero_mul, hr.self]; rfl
  case round =>
    obtain ⟨j, q, hj, rfl, rfl, rfl⟩ := hrel
    have hbel : Below w.heap.size w (rowW (mk w n) w.heap.size 0 n (qrow x d j)) := rowW_below HB.out (Nat.le_refl _)
    by_cases hj0 : j = 0
    · subst hj0
      have e0 : qrow x d 0 = x / d := by simp [qrow]
      have e1 : x / B ^ 0 % d = x % d := by simp
      have hlt : x / d < B ^ n := Nat.lt_of_le_of_lt (Nat.div_le_self _ _) hxl
      rw [e0] at hbel ⊢
      rw [e1]
      clear e0 e1
      have hd' : DigsAt ((rowW (mk w n) w.heap.size 0 n (x / d)).drewN q) (some ⟨w.heap.size, 0, none⟩) n n (x / d) :=
        ((hr.row (x / d)).digs hlt (by rw [rowW_size, HS.out]; omega) (Nat.le_refl _)).drawn q
      go_wp2_with (first | (go_at_call 175; refine (trim_any _ n n (x / d) _ hd' (by omega)).mono ?_; rintro e w' ⟨rfl, rfl⟩))
      go_ret2
      exact ⟨_, _, rfl, hd'.shrink, below_drawn hbel q⟩
    · obtain ⟨b2, o2, rfl, hb2, hc2⟩ := h.cells (by omega)
      obtain ⟨i, rfl⟩ : ∃ i, j = i + 1 := ⟨j - 1, by omega⟩
      have e1 : ((i + 1 : Nat) : Int) - 1 = (i : Int) := by omega
      rw [e1]
      obtain ⟨s1, s2, s3, s4⟩ := qrow_step (x := x) (j := i) hd
      have g0 : (rowW (mk w n) w.heap.size 0 n (qrow x d (i + 1))).cell? ⟨b2, o2 + i, none⟩ = some (u64 (dig x i)) := (hbel.cell (by exact hb2)).trans (hc2 i (by omega))
      have g1 : (rowW (mk w n) w.heap.size 0 n (qrow x d (i + 1))).cell? ⟨w.heap.size, i, none⟩ = some (u64 (dig (qrow x d (i + 1)) i)) := by
        have := hr.cell (u := qrow x d (i + 1)) (i := i) (by omega); rwa [Nat.zero_add] at this
      have g2 : (rowW (mk w n) w.heap.size 0 n (qrow x d (i + 1))).frozen? ⟨w.heap.size, i, none⟩ = false := by
        have := hr.free (u := qrow x d (i + 1)) (i := i) (by omega); rwa [Nat.zero_add] at this
      have hset := rowW_set (w := mk w n) (b := w.heap.size) (off := 0) (n := n) (v := qrow x d (i + 1)) (i := i) (by omega) s2
      rw [s1, Nat.zero_add] at hset
      have hdiv := fun w => div64_any (x / B ^ (i + 1) % d) (dig x i) d (dig_lt _ _) hdB s4 w
      rw [s3] at hdiv
      have HSET := Lib.hid hset
      have HDIV := Lib.hid hdiv
      clear hset s1 s2 s3 hc2 hdiv e1 hj0
      go_wp2_with (first | (go_at_call 197; refine (HDIV.out _).mono ?_; rintro e w' ⟨rfl, q2, rfl⟩))
      go_roundw
      case rel => exact ⟨i, q + q2, by omega, by go_num, rfl, congrArg (fun W => World.drewN W (q + q2)) HSET.out⟩
      case measure => simp [intOf]
end Go.Proofs.YtlncagdekfjinaaGreatDoor
