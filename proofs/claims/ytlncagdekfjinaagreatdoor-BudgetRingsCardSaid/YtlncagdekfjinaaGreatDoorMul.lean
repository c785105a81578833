/- (limbs).mul, digit by digit. -/
import Derived.Test.YtlncagdekfjinaaGreatDoorParts
import Derived.Test.YtlncagdekfjinaaGreatDoorAdd
namespace Go.Proofs.YtlncagdekfjinaaGreatDoor
open Go.RowKit Go.Sort Dg
theorem mul_step {x y k n u c : Nat} (hx : x < B ^ n) (hu : u < B ^ n) (h : u + c * B ^ n = x * (y % B ^ k) / B ^ k + x * dig y k) :
    put (patch (x * (y % B ^ k)) k n u) (k + n) c = x * (y % B ^ (k + 1)) ∧ x * (y % B ^ k) / B ^ k < B ^ n := by
  have hV : x * (y % B ^ k) < B ^ (k + n) := by
    rw [Nat.add_comm, Nat.pow_add]
    rcases Nat.eq_zero_or_pos x with h0 | h0
    · subst h0; rw [Nat.zero_mul]; exact Nat.mul_pos (B_pow_pos _) (B_pow_pos _)
    · exact Nat.mul_lt_mul'' hx (Nat.mod_lt _ (B_pow_pos k))
  have h1 : x * (y % B ^ k) / B ^ k < B ^ n := by
    rw [Nat.div_lt_iff_lt_mul (B_pow_pos k), ← Nat.pow_add, Nat.add_comm]; exact hV
  refine ⟨?_, h1⟩
  rw [mod_succ, Nat.mul_add]
  generalize x * (y % B ^ k) = V at *
  have hp : patch V k n u < B ^ (k + n) := by
    rw [patch_top hV]
    have h2 := Nat.mod_lt V (B_pow_pos k)
    have h3 : u * B ^ k + B ^ k ≤ B ^ (k + n) := by
      rw [← Nat.succ_mul, Nat.pow_add, Nat.mul_comm (B ^ k)]; exact Nat.mul_le_mul_right _ hu
    omega
  have h4 := put_add (patch V k n u) (k + n) c
  rw [dig_big hp, Nat.zero_mul, Nat.add_zero, patch_top hV] at h4
  rw [patch_top hV, h4, Nat.pow_add]
  have h5 := Nat.mod_add_div V (B ^ k)
  have h6 : (u + c * B ^ n) * B ^ k = (V / B ^ k + x * dig y k) * B ^ k := by rw [h]
  rw [Nat.mul_comm (B ^ k) (V / B ^ k)] at h5
  have e1 : c * (B ^ k * B ^ n) = c * B ^ n * B ^ k := by rw [Nat.mul_comm (B ^ k), Nat.mul_assoc]
  have e2 : x * (dig y k * B ^ k) = x * dig y k * B ^ k := by rw [Nat.mul_assoc]
  rw [Nat.add_mul, Nat.add_mul] at h6
  rw [e1, e2]
  generalize V % B ^ k = v0 at *
  omega
theorem mul_any (a b : Option Addr) (ca cb x y : Nat) (w : World) (hx : DigsAt w a (nl x) ca x) (hy : DigsAt w b (nl y) cb y) (hnx : nl x ≤ 68719476736) (hny : nl y ≤ 68719476736)
    (hmin : nl x < 40 ∨ nl y < 40) :
    Calls Tryz.prog 127 #[.slice a (nl x) ca, .slice b (nl y) cb] w (Gives w (x * y)) := by
  by_cases hlt : nl x < nl y
  · have hlt' : nl x < nl y := hlt
    rw [Nat.mul_comm x y]
    have hk : nl x ≤ nl y := by omega
    have hy40 : nl x < 40 := by omega
    have hle := nl_mul_le y x
    obtain ⟨N, hN⟩ : ∃ N, nl y + nl x = N := ⟨_, rfl⟩
    have hmk := fun w => mk_run ((nl y : Int) + (nl x : Int)) N (by omega) (by omega) w
    have hr := mk_row w N
    have hB0 := mk_below w N
    have hsz := mk_size w N
    have hXl := lt_nl y
    have hYl := lt_nl x
    have hXY : y * x < B ^ N := Nat.lt_of_lt_of_le (lt_nl _) (Nat.pow_le_pow_right B_pos (by omega))
    have HB := Lib.hid hB0
    have HS := Lib.hid hsz
    have HXE := Lib.hid (show y * (x % B ^ nl x) = y * x by rw [Nat.mod_eq_of_lt hYl])
    clear hB0 hsz hle
    have hnn : nl y + nl x ≤ N := by omega
    have hN2 : N ≤ 68719476776 := by omega
    have HN := Lib.hid hN
    clear hN
    generalize nl y = n at *
    generalize nl x = m at *
    have hd1 : decide (m < n) = true := by simp; omega
    have hd2 : decide ((40 : Int) ≤ (m : Int)) = false := by simp; omega
    go_enter Tryz.func127, Tryz.ntmps127
    go_wp2
    go_loopw [29] (fun i wr => ∃ k : Nat, k ≤ m ∧ i = .int .i64 k ∧ wr = rowW (mk w N) w.heap.size 0 N (y * (x % B ^ k))) (fun i _ => m - (intOf i).toNat)
    case atStart => exact ⟨0, Nat.zero_le _, rfl, by rw [Nat.pow_zero, Nat.mod_one, Nat.mul_zero, hr.self]⟩
    case round =>
      obtain ⟨k, hkm, rfl, rfl⟩ := hrel
      have hbel : Below w.heap.size w (rowW (mk w N) w.heap.size 0 N (y * (x % B ^ k))) := rowW_below HB.out (Nat.le_refl _)
      by_cases hlt : k < m
      · obtain ⟨b2, o2, rfl, hb2, hc2⟩ := hx.cells (by omega)
        have g1 : (rowW (mk w N) w.heap.size 0 N (y * (x % B ^ k))).cell? ⟨b2, o2 + k, none⟩ = some (u64 (dig x k)) := (hbel.cell (by exact hb2)).trans (hc2 k hlt)
        have hn0 : 0 < n := by omega
        have hrow := (hr.row (y * (x % B ^ k))).part (i := k) (n := n) (by omega)
        rw [Nat.zero_add] at hrow
        have hq : y * (x % B ^ k) / B ^ k < B ^ n := (mul_step (x := y) (y := x) (k := k) (n := n) (u := (y * (x % B ^ k) / B ^ k + y * dig x k) % B ^ n) (c := (y * (x % B ^ k) / B ^ k + y * dig x k) / B ^ n) hXl (Nat.mod_lt _ (B_pow_pos n)) (by rw [Nat.mul_comm _ (B ^ n)]; exact Nat.mod_add_div _ _)).2
        have hsep : ∀ c, b = some c → n ≠ 0 → c.block ≠ w.heap.size := by
          intro c hc h0
          obtain ⟨b3, o3, e, hb3, _⟩ := hy.cells h0
          rw [e] at hc; cases hc; exact Nat.ne_of_lt hb3
        have HSEP := Lib.hid hsep
        have hpart := fun u hu => rowW_part (w := rowW (mk w N) w.heap.size 0 N (y * (x % B ^ k))) (i := k) (n := n) (u := u) (hr.row _) (by omega) hu
        have HP := Lib.hid hpart
        clear hc2 hsep hpart
        go_wp2_with fail
        refine (gainTimes_any w.heap.size k n (N - k) _ b cb y (dig x k) _ hrow hq (by omega) (hy.mono hbel) HSEP.out (dig_lt _ _)).mono ?_
        rintro e w' ⟨c, u, rfl, hc, hu, hval, rfl⟩
        have hw := HP.out u hu
        rw [Nat.zero_add, rowW_rowW] at hw
        rw [hw]
        obtain ⟨hst, _⟩ := mul_step hXl hu hval
        have hset := rowW_set (w := mk w N) (b := w.heap.size) (off := 0) (n := N) (v := patch (y * (x % B ^ k)) k n u) (i := k + n) (d := c) (by omega) hc
        rw [hst, Nat.zero_add] at hset
        have HSET := Lib.hid hset
        clear hset hst hw hval HP g1 hrow hq
        generalize patch (y * (x % B ^ k)) k n u = V at *
        have g2 : (rowW (mk w N) w.heap.size 0 N V).cell? ⟨w.heap.size, k + n, none⟩ = some (u64 (dig V (k + n))) := by
          have := hr.cell (u := V) (i := k + n) (by omega); rwa [Nat.zero_add] at this
        have g3 : (rowW (mk w N) w.heap.size 0 N V).frozen? ⟨w.heap.size, k + n, none⟩ = false := by
          have := hr.free (u := V) (i := k + n) (by omega); rwa [Nat.zero_add] at this
        go_wp2
        go_roundw
        case rel => exact ⟨k + 1, by omega, by go_num, HSET.out⟩
        case measure => simp [intOf]; omega
      · obtain rfl : k = m := by omega
        rw [HXE.out] at hbel ⊢
        have hd : DigsAt (rowW (mk w N) w.heap.size 0 N (y * x)) (some ⟨w.heap.size, 0, none⟩) N N (y * x) :=
          (hr.row (y * x)).digs hXY (by rw [rowW_size, HS.out]; omega) (Nat.le_refl _)
        go_wp2_with (first | (go_at_call 175; refine (trim_any _ N N (y * x) _ hd (by omega)).mono ?_; rintro e w' ⟨rfl, rfl⟩))
        go_ret
        exact ⟨_, _, rfl, hd.shrink, hbel⟩
  · have hlt' : nl y ≤ nl x := by omega
    clear hlt
    have hk : nl y ≤ nl x := by omega
    have hy40 : nl y < 40 := by omega
    have hle := nl_mul_le x y
    obtain ⟨N, hN⟩ : ∃ N, nl x + nl y = N := ⟨_, rfl⟩
    have hmk := fun w => mk_run ((nl x : Int) + (nl y : Int)) N (by omega) (by omega) w
    have hr := mk_row w N
    have hB0 := mk_below w N
    have hsz := mk_size w N
    have hXl := lt_nl x
    have hYl := lt_nl y
    have hXY : x * y < B ^ N := Nat.lt_of_lt_of_le (lt_nl _) (Nat.pow_le_pow_right B_pos (by omega))
    have HB := Lib.hid hB0
    have HS := Lib.hid hsz
    have HXE := Lib.hid (show x * (y % B ^ nl y) = x * y by rw [Nat.mod_eq_of_lt hYl])
    clear hB0 hsz hle
    have hnn : nl x + nl y ≤ N := by omega
    have hN2 : N ≤ 68719476776 := by omega
    have HN := Lib.hid hN
    clear hN
    generalize nl x = n at *
    generalize nl y = m at *
    have hd1 : decide (n < m) = false := by simp; omega
    have hd2 : decide ((40 : Int) ≤ (m : Int)) = false := by simp; omega
    go_enter Tryz.func127, Tryz.ntmps127
    go_wp2
    go_loopw [29] (fun i wr => ∃ k : Nat, k ≤ m ∧ i = .int .i64 k ∧ wr = rowW (mk w N) w.heap.size 0 N (x * (y % B ^ k))) (fun i _ => m - (intOf i).toNat)
    case atStart => exact ⟨0, Nat.zero_le _, rfl, by rw [Nat.pow_zero, Nat.mod_one, Nat.mul_zero, hr.self]⟩
    case round =>
      obtain ⟨k, hkm, rfl, rfl⟩ := hrel
      have hbel : Below w.heap.size w (rowW (mk w N) w.heap.size 0 N (x * (y % B ^ k))) := rowW_below HB.out (Nat.le_refl _)
      by_cases hlt : k < m
      · obtain ⟨b2, o2, rfl, hb2, hc2⟩ := hy.cells (by omega)
        have g1 : (rowW (mk w N) w.heap.size 0 N (x * (y % B ^ k))).cell? ⟨b2, o2 + k, none⟩ = some (u64 (dig y k)) := (hbel.cell (by exact hb2)).trans (hc2 k hlt)
        have hn0 : 0 < n := by omega
        have hrow := (hr.row (x * (y % B ^ k))).part (i := k) (n := n) (by omega)
        rw [Nat.zero_add] at hrow
        have hq : x * (y % B ^ k) / B ^ k < B ^ n := (mul_step (x := x) (y := y) (k := k) (n := n) (u := (x * (y % B ^ k) / B ^ k + x * dig y k) % B ^ n) (c := (x * (y % B ^ k) / B ^ k + x * dig y k) / B ^ n) hXl (Nat.mod_lt _ (B_pow_pos n)) (by rw [Nat.mul_comm _ (B ^ n)]; exact Nat.mod_add_div _ _)).2
        have hsep : ∀ c, a = some c → n ≠ 0 → c.block ≠ w.heap.size := by
          intro c hc h0
          obtain ⟨b3, o3, e, hb3, _⟩ := hx.cells h0
          rw [e] at hc; cases hc; exact Nat.ne_of_lt hb3
        have HSEP := Lib.hid hsep
        have hpart := fun u hu => rowW_part (w := rowW (mk w N) w.heap.size 0 N (x * (y % B ^ k))) (i := k) (n := n) (u := u) (hr.row _) (by omega) hu
        have HP := Lib.hid hpart
        clear hc2 hsep hpart
        go_wp2_with fail
        refine (gainTimes_any w.heap.size k n (N - k) _ a ca x (dig y k) _ hrow hq (by omega) (hx.mono hbel) HSEP.out (dig_lt _ _)).mono ?_
        rintro e w' ⟨c, u, rfl, hc, hu, hval, rfl⟩
        have hw := HP.out u hu
        rw [Nat.zero_add, rowW_rowW] at hw
        rw [hw]
        obtain ⟨hst, _⟩ := mul_step hXl hu hval
        have hset := rowW_set (w := mk w N) (b := w.heap.size) (off := 0) (n := N) (v := patch (x * (y % B ^ k)) k n u) (i := k + n) (d := c) (by omega) hc
        rw [hst, Nat.zero_add] at hset
        have HSET := Lib.hid hset
        clear hset hst hw hval HP g1 hrow hq
        generalize patch (x * (y % B ^ k)) k n u = V at *
        have g2 : (rowW (mk w N) w.heap.size 0 N V).cell? ⟨w.heap.size, k + n, none⟩ = some (u64 (dig V (k + n))) := by
          have := hr.cell (u := V) (i := k + n) (by omega); rwa [Nat.zero_add] at this
        have g3 : (rowW (mk w N) w.heap.size 0 N V).frozen? ⟨w.heap.size, k + n, none⟩ = false := by
          have := hr.free (u := V) (i := k + n) (by omega); rwa [Nat.zero_add] at this
        go_wp2
        go_roundw
        case rel => exact ⟨k + 1, by omega, by go_num, HSET.out⟩
        case measure => simp [intOf]; omega
      · obtain rfl : k = m := by omega
        rw [HXE.out] at hbel ⊢
        have hd : DigsAt (rowW (mk w N) w.heap.size 0 N (x * y)) (some ⟨w.heap.size, 0, none⟩) N N (x * y) :=
          (hr.row (x * y)).digs hXY (by rw [rowW_size, HS.out]; omega) (Nat.le_refl _)
        go_wp2_with (first | (go_at_call 175; refine (trim_any _ N N (x * y) _ hd (by omega)).mono ?_; rintro e w' ⟨rfl, rfl⟩))
        go_ret
        exact ⟨_, _, rfl, hd.shrink, hbel⟩
end Go.Proofs.YtlncagdekfjinaaGreatDoor
