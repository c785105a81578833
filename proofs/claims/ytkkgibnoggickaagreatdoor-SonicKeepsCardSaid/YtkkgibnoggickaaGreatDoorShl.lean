/- (limbs).left and (limbs).low: shifts to the left, and the last binary digits. -/
import Derived.Test.YtkkgibnoggickaaGreatDoorShift
namespace Go.Proofs.YtkkgibnoggickaaGreatDoor
open Go.RowKit Go.Sort Dg

/-- (limbs).left. -/
theorem left_any (a : Option Addr) (cap x n : Nat) (w : World) (h : DigsAt w a (nl x) cap x) (hl : nl x ≤ 68719476736) (hn : n ≤ 68719476736) :
    Calls Tryz.prog 175 #[.slice a (nl x) cap, .int .i64 n] w (Gives w (x * 2 ^ n)) := by
  by_cases hx : x = 0
  · subst hx
    rw [Nat.zero_mul, nl_zero]
    go_enter Tryz.func175, Tryz.ntmps175
    go_wp2
    go_ret
    exact ⟨none, 0, rfl, DigsAt.zero _ _ _, Below.refl _ _⟩
  · have hp := nl_pos hx
    have tt : (((nl x : Nat) : Int) == 0) = false := by rw [beq_eq_false_iff_ne]; omega
    obtain ⟨b, off, rfl, hb, hc⟩ := h.cells (by omega)
    obtain ⟨m, hm⟩ : ∃ m, nl x + n / 64 + 1 = m := ⟨_, rfl⟩
    have hmk := fun w => mk_run ((nl x : Int) + (n : Int) / 64 + 1) m (by omega) (by omega) w
    have hxm : lsh x n (nl x) < B ^ m := by
      have h1 := lsh_lt x n (nl x)
      have h2 := Nat.mul_lt_mul_of_pos_right (two_lt (k := n % 64) (Nat.mod_lt _ (by omega))) (B_pow_pos (nl x + n / 64))
      rw [← hm, Nat.pow_succ, Nat.mul_comm]; omega
    have hval : lsh x n (nl x) = x * 2 ^ n := by unfold lsh; rw [Nat.mod_eq_of_lt (lt_nl x)]
    have hr := mk_row w m
    have hsz := mk_size w m
    have HB := Lib.hid (mk_below w m)
    have HS := Lib.hid hsz
    have HV := Lib.hid hval
    have HC := Lib.hid hc
    clear hx hsz hval hc
    generalize nl x = k at *
    have hm2 : m ≤ 137438953473 := by omega
    have hkm : k + n / 64 + 1 ≤ m := by omega
    have HM := Lib.hid hm
    clear hm
    go_enter Tryz.func175, Tryz.ntmps175
    go_wp2
    go_loopw [20] (fun i wr => ∃ j q : Nat, j ≤ k ∧ i = .int .i64 j ∧ wr = (rowW (mk w m) w.heap.size 0 m (lsh x n j)).drewN q) (fun i _ => k - (intOf i).toNat)
    case atStart => exact ⟨0, 0, Nat.zero_le _, rfl, by rw [lsh_zero, hr.self]; rfl⟩
    case round =>
      obtain ⟨j, q, hj, rfl, rfl⟩ := hrel
      have hbel : Below w.heap.size w (rowW (mk w m) w.heap.size 0 m (lsh x n j)) := rowW_below HB.out (Nat.le_refl _)
      by_cases hlt : j < k
      · have g0 : (rowW (mk w m) w.heap.size 0 m (lsh x n j)).cell? ⟨b, off + j, none⟩ = some (u64 (dig x j)) := (hbel.cell (by exact hb)).trans (HC.out j hlt)
        have g1 : (rowW (mk w m) w.heap.size 0 m (lsh x n j)).cell? ⟨w.heap.size, j + n / 64, none⟩ = some (u64 (dig (lsh x n j) (j + n / 64))) := by
          have := hr.cell (u := lsh x n j) (i := j + n / 64) (by omega); rwa [Nat.zero_add] at this
        have g2 : (rowW (mk w m) w.heap.size 0 m (lsh x n j)).frozen? ⟨w.heap.size, j + n / 64, none⟩ = false := by
          have := hr.free (u := lsh x n j) (i := j + n / 64) (by omega); rwa [Nat.zero_add] at this
        have i0 : (0 : Int) ≤ (j : Int) + (n : Int) / 64 := by omega
        have i1 : (j : Int) + (n : Int) / 64 < (m : Int) := by omega
        have i2 : ((j : Int) + (n : Int) / 64).toNat = j + n / 64 := by omega
        have i3 : IntKind.i64.wrap ((j : Int) + (n : Int) / 64) = (j : Int) + (n : Int) / 64 := IntWalk.i64_in _ (by omega)
        go_wp2
        obtain ⟨wq, hwq⟩ : ∃ wq, (rowW (mk w m) w.heap.size 0 m (lsh x n j)).drewN q = wq := ⟨_, rfl⟩
        have k1 : wq.cell? ⟨w.heap.size, j + n / 64, none⟩ = some (u64 (dig (lsh x n j) (j + n / 64))) := by rw [← hwq]; exact g1
        have k2 : wq.frozen? ⟨w.heap.size, j + n / 64, none⟩ = false := by rw [← hwq]; exact g2
        rw [hwq]
        have HWQ := Lib.hid hwq
        clear hwq g0 g1 g2
        go_region
        have hor : bits .or .u64 ((dig (lsh x n j) (j + n / 64) : Nat) : Int) (IntKind.u64.wrap (((dig x j : Nat) : Int) * 2 ^ (n % 64))) = ((dig (lsh x n j) (j + n / 64) ||| dig x j * 2 ^ (n % 64) % B : Nat) : Int) := by
          rw [shl_cast, wrapU]; exact or_cast _ _ (dig_lt _ _) (Nat.mod_lt _ B_pos)
        obtain ⟨s1, s2, s3⟩ := lsh_step x n j
        rw [hor]
        generalize dig (lsh x n j) (j + n / 64) ||| dig x j * 2 ^ (n % 64) % B = d1 at *
        have hw : (wq.setCell ⟨w.heap.size, j + n / 64, none⟩ (u64 d1)).drew = (rowW (mk w m) w.heap.size 0 m (put (lsh x n j) (j + n / 64) d1)).drewN (q + 1) := by
          have := rowW_set (w := mk w m) (b := w.heap.size) (off := 0) (n := m) (v := lsh x n j) (i := j + n / 64) (d := d1) (by omega) s2
          rw [Nat.zero_add] at this
          rw [← this, ← HWQ.out]; rfl
        rw [hw]
        have HT := Lib.hid s1
        clear hw hor s1 k1 k2 HWQ
        generalize put (lsh x n j) (j + n / 64) d1 = V1 at *
        have g1 : (rowW (mk w m) w.heap.size 0 m V1).cell? ⟨w.heap.size, j + n / 64 + 1, none⟩ = some (u64 (dig V1 (j + n / 64 + 1))) := by
          have := hr.cell (u := V1) (i := j + n / 64 + 1) (by omega); rwa [Nat.zero_add] at this
        have g2 : (rowW (mk w m) w.heap.size 0 m V1).frozen? ⟨w.heap.size, j + n / 64 + 1, none⟩ = false := by
          have := hr.free (u := V1) (i := j + n / 64 + 1) (by omega); rwa [Nat.zero_add] at this
        have i4 : ((j : Int) + (n : Int) / 64 + 1).toNat = j + n / 64 + 1 := by omega
        have i5 : (0 : Int) ≤ (j : Int) + (n : Int) / 64 + 1 := by omega
        have i6 : (j : Int) + (n : Int) / 64 + 1 < (m : Int) := by omega
        clear i3
        have hset := rowW_set (w := mk w m) (b := w.heap.size) (off := 0) (n := m) (v := V1) (i := j + n / 64 + 1) (by omega) s3
        rw [HT.out, Nat.zero_add] at hset
        have HSET := Lib.hid hset
        clear hset
        go_wp2
        go_roundw
        case rel => exact ⟨j + 1, q + 1, by omega, by go_num, by rw [shr_cast]; exact congrArg (fun W => World.drewN W (q + 1)) HSET.out⟩
        case measure => simp [intOf]; omega
      · obtain rfl : j = k := by omega
        have hrow := hr.row (lsh x n j)
        have hd : DigsAt ((rowW (mk w m) w.heap.size 0 m (lsh x n j)).drewN q) (some ⟨w.heap.size, 0, none⟩) m m (lsh x n j) :=
          (hrow.digs hxm (by rw [rowW_size, HS.out]; omega) (Nat.le_refl _)).drawn q
        go_wp2_with (first | (go_at_call 158; refine (trim_any _ m m (lsh x n j) _ hd (by omega)).mono ?_; rintro e w' ⟨rfl, rfl⟩))
        go_ret
        rw [← HV.out]
        exact ⟨_, _, rfl, hd.shrink, below_drawn hbel q⟩

end Go.Proofs.YtkkgibnoggickaaGreatDoor
