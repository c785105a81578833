/- Plain arithmetic of binary digits: length, zeros at the end, windows, shifts. Nothing of any program stands here. -/
import Derived.Test.YtkkgibnoggickaaGreatDoorDigits
import Derived.Lib.BitFns
import Derived.Lib.TrailingZeros
namespace Go.Proofs.YtkkgibnoggickaaGreatDoor
namespace Dg

/-- The number of binary digits. -/
def bl (x : Nat) : Nat := if x = 0 then 0 else x.log2 + 1
theorem bl_zero : bl 0 = 0 := rfl
theorem lt_bl (x : Nat) : x < 2 ^ bl x := by
  unfold bl; split
  · subst_vars; decide
  · exact Nat.lt_log2_self
theorem bl_le {x n : Nat} (h : x < 2 ^ n) : bl x ≤ n := by
  unfold bl; split
  · omega
  · rename_i hx; exact (Nat.log2_lt hx).2 h
theorem bl_pos {x : Nat} (h : x ≠ 0) : 0 < bl x := by unfold bl; simp [h]
theorem le_of_bl {x : Nat} (h : x ≠ 0) : 2 ^ (bl x - 1) ≤ x := by
  rcases Nat.lt_or_ge x (2 ^ (bl x - 1)) with h1 | h1
  · have := bl_le h1; have := bl_pos h; omega
  · exact h1
theorem bl_eq {x n : Nat} (h1 : x < 2 ^ (n + 1)) (h2 : 2 ^ n ≤ x) : bl x = n + 1 := by
  have := bl_le h1
  rcases Nat.lt_or_ge (bl x) (n + 1) with h | h
  · have h3 := lt_bl x
    have := Nat.pow_le_pow_right (show 0 < 2 by omega) (show bl x ≤ n by omega)
    omega
  · omega
theorem lt_of_bl_le {x n : Nat} (h : bl x ≤ n) : x < 2 ^ n := Nat.lt_of_lt_of_le (lt_bl x) (Nat.pow_le_pow_right (by omega) h)
theorem le_of_bl_gt {x n : Nat} (h : n < bl x) : 2 ^ n ≤ x := by
  have hx : x ≠ 0 := by rintro rfl; simp [bl_zero] at h
  exact Nat.le_trans (Nat.pow_le_pow_right (by omega) (by omega)) (le_of_bl hx)

theorem bitLenAux_eq : ∀ (f x : Nat), x < 2 ^ f → Lib.bitLenAux f x = bl x
  | 0, x, h => by simp at h; subst h; rfl
  | f + 1, x, h => by
    unfold Lib.bitLenAux
    split
    · subst_vars; rfl
    · rename_i hx
      rw [bitLenAux_eq f (x / 2) (by rw [Nat.pow_succ] at h; omega)]
      by_cases h1 : x = 1
      · subst h1; rfl
      · have h2 : x / 2 ≠ 0 := by omega
        have h3 := lt_bl (x / 2)
        have h4 := le_of_bl h2
        have h5 := bl_pos h2
        rw [Nat.add_comm]
        symm
        apply bl_eq
        · rw [Nat.pow_succ]; omega
        · rw [show bl (x / 2) = bl (x / 2) - 1 + 1 by omega, Nat.pow_succ]; omega
theorem bitLen_eq {x : Nat} (h : x < B) : Lib.bitLen x = bl x := bitLenAux_eq 64 x h

theorem B_two64 : B = 2 ^ 64 := rfl

/-- Length by digits. -/
theorem bl_top {x : Nat} (hx : x ≠ 0) : bl x = 64 * (nl x - 1) + bl (dig x (nl x - 1)) := by
  have hd := dig_top hx
  have h0 := nl_pos hx
  have h1 := div_succ x (nl x - 1)
  have h2 : x / B ^ (nl x - 1 + 1) = 0 := Nat.div_eq_of_lt (by rw [show nl x - 1 + 1 = nl x by omega]; exact lt_nl x)
  rw [h2, Nat.zero_mul, Nat.zero_add] at h1
  have h3 := lt_bl (dig x (nl x - 1))
  have h4 := le_of_bl hd
  have h5 := bl_pos hd
  rw [← h1] at h3 h4 h5 ⊢
  have e : 64 * (nl x - 1) + bl (x / B ^ (nl x - 1)) = 64 * (nl x - 1) + (bl (x / B ^ (nl x - 1)) - 1) + 1 := by omega
  rw [e]
  apply bl_eq
  · rw [Nat.add_assoc, show bl (x / B ^ (nl x - 1)) - 1 + 1 = bl (x / B ^ (nl x - 1)) by omega, Nat.pow_add, ← B_pow_two]
    rw [Nat.div_lt_iff_lt_mul (B_pow_pos _), Nat.mul_comm] at h3
    exact h3
  · rw [Nat.pow_add, ← B_pow_two]
    rw [Nat.le_div_iff_mul_le (B_pow_pos _), Nat.mul_comm] at h4
    exact h4

/-- The number of binary zeros at the end; 0 for 0. -/
def tz (x : Nat) : Nat := if x = 0 then 0 else Lib.ctzFrom (x.log2 + 1) x
theorem tz_zero : tz 0 = 0 := rfl
theorem odd_split {a b m k : Nat} (h : 2 ^ a * (2 * m + 1) = 2 ^ b * (2 * k + 1)) : a = b := by
  rcases Nat.lt_trichotomy a b with h1 | h1 | h1
  · obtain ⟨d, rfl⟩ : ∃ d, b = a + (d + 1) := ⟨b - a - 1, by omega⟩
    rw [Nat.pow_add, Nat.mul_assoc] at h
    have := Nat.eq_of_mul_eq_mul_left (Nat.pow_pos (by omega)) h
    rw [Nat.pow_succ, Nat.mul_assoc, Nat.mul_left_comm] at this
    omega
  · exact h1
  · obtain ⟨d, rfl⟩ : ∃ d, a = b + (d + 1) := ⟨a - b - 1, by omega⟩
    rw [Nat.pow_add, Nat.mul_assoc] at h
    have := Nat.eq_of_mul_eq_mul_left (Nat.pow_pos (by omega)) h
    rw [Nat.pow_succ, Nat.mul_assoc, Nat.mul_left_comm] at this
    omega
theorem tz_spec {x : Nat} (hx : x ≠ 0) : ∃ m, x = 2 ^ tz x * (2 * m + 1) := by
  unfold tz; rw [if_neg hx]
  obtain ⟨m, hm, _⟩ := Lib.ctzFrom_spec (x.log2 + 1) x (by omega) Nat.lt_log2_self
  exact ⟨m, hm⟩
theorem tz_eq {x a m : Nat} (h : x = 2 ^ a * (2 * m + 1)) : tz x = a := by
  have hx : x ≠ 0 := by
    have := Nat.mul_pos (Nat.pow_pos (n := a) (show 0 < 2 by omega)) (show 0 < 2 * m + 1 by omega)
    omega
  obtain ⟨k, hk⟩ := tz_spec hx
  exact odd_split (hk.symm.trans h)
theorem tz_dvd (x : Nat) : 2 ^ tz x ∣ x := by
  by_cases h : x = 0
  · subst h; exact Nat.dvd_zero _
  · obtain ⟨m, hm⟩ := tz_spec h
    exact ⟨2 * m + 1, hm⟩
theorem tz_le {x n : Nat} (hx : x ≠ 0) (h : x < 2 ^ n) : tz x < n := by
  obtain ⟨m, hm⟩ := tz_spec hx
  rcases Nat.lt_or_ge (tz x) n with h1 | h1
  · exact h1
  · have h2 := Nat.pow_le_pow_right (show 0 < 2 by omega) h1
    have h3 : 2 ^ tz x ≤ 2 ^ tz x * (2 * m + 1) := Nat.le_mul_of_pos_right _ (by omega)
    omega

theorem ctz_spec {x : Nat} (h0 : x ≠ 0) (h : x < B) : ∃ m, x = 2 ^ Lib.ctz 64 x * (2 * m + 1) ∧ Lib.ctz 64 x < 64 := by
  unfold Lib.ctz; rw [if_neg h0]
  exact Lib.ctzFrom_spec 64 x (by omega) h

/-- Zeros by digits. -/
theorem tz_digits {x i : Nat} (hz : x % B ^ i = 0) (hd : dig x i ≠ 0) : tz x = 64 * i + Lib.ctz 64 (dig x i) := by
  obtain ⟨m, hm, hk⟩ := ctz_spec hd (dig_lt _ _)
  have h1 := div_succ x i
  have h2 := Nat.mod_add_div x (B ^ i)
  rw [hz, Nat.zero_add] at h2
  generalize Lib.ctz 64 (dig x i) = k at *
  have h3 : B = 2 ^ k * (2 * 2 ^ (63 - k)) := by
    rw [B_two64, ← Nat.pow_succ', ← Nat.pow_add]; congr 1; omega
  generalize x / B ^ (i + 1) = q at *
  refine tz_eq (m := q * 2 ^ (63 - k) + m) ?_
  rw [← h2, h1, hm, Nat.pow_add 2 (64 * i) k, ← B_pow_two, Nat.mul_assoc]
  congr 1
  generalize 2 ^ (63 - k) = e at *
  generalize 2 ^ k = f at *
  rw [h3]
  grind

/-- The 64 binary digits from a place on. -/
def win (x a : Nat) : Nat := x / 2 ^ a % B
theorem win_lt (x a : Nat) : win x a < B := Nat.mod_lt _ B_pos

theorem two_split {s : Nat} (h : s ≤ 64) : B = 2 ^ s * 2 ^ (64 - s) := by
  rw [B_two64, ← Nat.pow_add]; congr 1; omega

theorem or_disjoint {a b k : Nat} (h : b < 2 ^ k) : b ||| (2 ^ k * a) = b + 2 ^ k * a := by
  rw [Nat.or_comm, ← Nat.two_pow_add_eq_or_of_lt h, Nat.add_comm]

/-- Two digits beside each other. -/
theorem win_or {x i s : Nat} (hs : s < 64) : (dig x i / 2 ^ s) ||| (dig x (i + 1) * 2 ^ (64 - s) % B) = win x (64 * i + s) := by
  have hB := two_split (Nat.le_of_lt hs)
  have h1 := div_succ x i
  have h2 := div_succ x (i + 1)
  have e1 : dig x (i + 1) * 2 ^ (64 - s) % B = 2 ^ (64 - s) * (dig x (i + 1) % 2 ^ s) := by
    rw [hB, Nat.mul_comm (2 ^ s), Nat.mul_comm (dig x (i + 1)), Nat.mul_mod_mul_left]
  have hl : dig x i / 2 ^ s < 2 ^ (64 - s) := by
    rw [Nat.div_lt_iff_lt_mul (Nat.pow_pos (by omega)), Nat.mul_comm, ← hB]; exact dig_lt _ _
  rw [e1, or_disjoint hl]
  unfold win
  rw [Nat.pow_add, ← B_pow_two, ← Nat.div_div_eq_div_mul, h1, h2]
  generalize x / B ^ (i + 1 + 1) = q
  generalize dig x (i + 1) = h at *
  generalize dig x i = l at *
  have hp : 0 < 2 ^ s := Nat.pow_pos (by omega)
  have e2 : ((q * B + h) * B + l) / 2 ^ s = (q * B + h) * 2 ^ (64 - s) + l / 2 ^ s := by
    have : (q * B + h) * B + l = l + 2 ^ s * ((q * B + h) * 2 ^ (64 - s)) := by
      generalize q * B + h = z
      rw [hB]; grind
    rw [this, Nat.add_mul_div_left _ _ hp, Nat.add_comm]
  rw [e2]
  have e3 : (q * B + h) * 2 ^ (64 - s) + l / 2 ^ s = 2 ^ (64 - s) * (h % 2 ^ s) + l / 2 ^ s + B * (q * 2 ^ (64 - s) + h / 2 ^ s) := by
    have := Nat.mod_add_div h (2 ^ s)
    generalize h % 2 ^ s = a at *
    generalize h / 2 ^ s = b at *
    rw [← this]
    generalize l / 2 ^ s = c
    rw [show B * (q * 2 ^ (64 - s) + b) = B * q * 2 ^ (64 - s) + B * b by grind]
    have : B * b = 2 ^ s * 2 ^ (64 - s) * b := by rw [← hB]
    rw [this]; grind
  have h5 : h % 2 ^ s + 1 ≤ 2 ^ s := Nat.mod_lt _ hp
  have h6 := Nat.mul_le_mul_left (2 ^ (64 - s)) h5
  rw [Nat.mul_add, Nat.mul_one, Nat.mul_comm (2 ^ (64 - s)) (2 ^ s), ← hB] at h6
  have h7 : 2 ^ (64 - s) * (h % 2 ^ s) + l / 2 ^ s < B := by
    clear e3 e2 e1 h1 h2 hB h5
    generalize 2 ^ (64 - s) * (h % 2 ^ s) = u at *
    omega
  rw [e3, Nat.add_mul_mod_self_left, Nat.mod_eq_of_lt h7, Nat.add_comm]

theorem dig_right (x n i : Nat) : dig (x / 2 ^ n) i = win x (64 * i + n) := by
  unfold dig win
  rw [B_pow_two, Nat.div_div_eq_div_mul, ← Nat.pow_add, Nat.add_comm n]

theorem bl_le_nl (x : Nat) : bl x ≤ 64 * nl x := bl_le (by rw [← B_pow_two]; exact lt_nl x)

theorem nl_right (x n : Nat) : nl (x / 2 ^ n) ≤ nl x - n / 64 := by
  apply nl_le
  rw [Nat.div_lt_iff_lt_mul (Nat.pow_pos (by omega))]
  have h1 := lt_nl x
  have h2 : B ^ nl x ≤ B ^ (nl x - n / 64) * 2 ^ n := by
    rw [B_pow_two, B_pow_two, ← Nat.pow_add]
    exact Nat.pow_le_pow_right (by omega) (by omega)
  omega

/-- One step of a shift to the left: what the first k digits make, and the digit k besides. -/
def lsh (x n k : Nat) : Nat := x % B ^ k * 2 ^ n
theorem lsh_zero (x n : Nat) : lsh x n 0 = 0 := by simp [lsh, Nat.mod_one]
theorem lsh_succ (x n k : Nat) : lsh x n (k + 1) = lsh x n k + dig x k * 2 ^ (n % 64) * B ^ (k + n / 64) := by
  unfold lsh
  have h : 2 ^ n = 2 ^ (n % 64) * B ^ (n / 64) := by rw [B_pow_two, ← Nat.pow_add]; congr 1; omega
  rw [mod_succ, h, Nat.pow_add]
  grind
theorem lsh_lt (x n k : Nat) : lsh x n k < 2 ^ (n % 64) * B ^ (k + n / 64) := by
  unfold lsh
  have h : 2 ^ n = 2 ^ (n % 64) * B ^ (n / 64) := by rw [B_pow_two, ← Nat.pow_add]; congr 1; omega
  rw [h, Nat.pow_add, Nat.mul_comm, Nat.mul_assoc, Nat.mul_comm (B ^ (n / 64))]
  exact Nat.mul_lt_mul_of_pos_left (Nat.mul_lt_mul_of_pos_right (Nat.mod_lt _ (B_pow_pos _)) (B_pow_pos _)) (Nat.pow_pos (by omega))
theorem lsh_step (x n k : Nat) :
    put (put (lsh x n k) (k + n / 64) (dig (lsh x n k) (k + n / 64) ||| dig x k * 2 ^ (n % 64) % B)) (k + n / 64 + 1) (dig x k / 2 ^ (64 - n % 64)) = lsh x n (k + 1) ∧
    dig (lsh x n k) (k + n / 64) ||| dig x k * 2 ^ (n % 64) % B < B ∧ dig x k / 2 ^ (64 - n % 64) < B := by
  rw [lsh_succ]
  have hV := lsh_lt x n k
  generalize lsh x n k = V at *
  generalize k + n / 64 = i at *
  have hr : n % 64 < 64 := Nat.mod_lt _ (by omega)
  generalize n % 64 = r at *
  have hd := dig_lt x k
  generalize dig x k = d at *
  have hB := two_split (Nat.le_of_lt hr)
  have hP := B_pow_pos i
  have hS : 0 < 2 ^ r := Nat.pow_pos (by omega)
  have hh : dig V i < 2 ^ r := by
    unfold dig
    refine Nat.lt_of_le_of_lt (Nat.mod_le _ _) ?_
    rw [Nat.div_lt_iff_lt_mul hP]; exact hV
  have hVd : dig V i * B ^ i ≤ V := dig_mul_le V i
  have e1 : d * 2 ^ r % B = 2 ^ r * (d % 2 ^ (64 - r)) := by
    rw [hB, Nat.mul_comm d, Nat.mul_mod_mul_left]
  have e2 := Nat.mod_add_div d (2 ^ (64 - r))
  have hm : d % 2 ^ (64 - r) < 2 ^ (64 - r) := Nat.mod_lt _ (Nat.pow_pos (by omega))
  have hq : d / 2 ^ (64 - r) < B := Nat.lt_of_le_of_lt (Nat.div_le_self _ _) hd
  rw [e1, or_disjoint hh]
  generalize d % 2 ^ (64 - r) = m at *
  generalize d / 2 ^ (64 - r) = q at *
  have hlB : 2 ^ r * m + 2 ^ r ≤ B := by
    rw [hB, ← Nat.mul_succ]; exact Nat.mul_le_mul_left _ hm
  have hsum : dig V i + 2 ^ r * m < B := by omega
  have p1 := put_add V i (dig V i + 2 ^ r * m)
  rw [Nat.add_mul] at p1
  have p2 : put V i (dig V i + 2 ^ r * m) = V + 2 ^ r * m * B ^ i := by omega
  have hlt : V + 2 ^ r * m * B ^ i < B ^ (i + 1) := by
    have := Nat.mul_le_mul_right (B ^ i) hlB
    rw [Nat.add_mul] at this
    rw [Nat.pow_succ, Nat.mul_comm (B ^ i)]
    omega
  have p3 := put_add (V + 2 ^ r * m * B ^ i) (i + 1) q
  rw [dig_big hlt, Nat.zero_mul, Nat.add_zero] at p3
  refine ⟨?_, hsum, hq⟩
  rw [p2, p3, ← e2, Nat.pow_succ, Nat.add_assoc]
  congr 1
  have : q * (B ^ i * B) = 2 ^ (64 - r) * q * 2 ^ r * B ^ i := by
    rw [show q * (B ^ i * B) = q * B ^ i * B by rw [Nat.mul_assoc]]
    conv => lhs; rw [hB]
    grind
  rw [this, ← Nat.add_mul, Nat.add_mul m]
  congr 1
  rw [Nat.mul_comm m]

end Dg
end Go.Proofs.YtkkgibnoggickaaGreatDoor
