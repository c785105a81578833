/- Plain arithmetic of numbers by their digits to the base 2^64. Nothing of any program stands here. Plain arithmetic of binary digits: length, zeros at the end, windows, shifts. Nothing of any program stands here. -/
import Derived.Lib.BitFns
import Derived.Lib.TrailingZeros
namespace Go.Proofs.YtlncagdekfjinaaGreatDoor
namespace Dg
def B : Nat := 18446744073709551616
theorem B_eq : B = 18446744073709551616 := rfl
theorem B_pos : 0 < B := by unfold B; omega
theorem B_two : 2 ≤ B := by unfold B; omega
theorem B_pow_pos (i : Nat) : 0 < B ^ i := Nat.pow_pos B_pos
def dig (v i : Nat) : Nat := v / B ^ i % B
theorem dig_lt (v i : Nat) : dig v i < B := Nat.mod_lt _ B_pos
theorem dig_le (v i : Nat) : dig v i ≤ 18446744073709551615 := by have := dig_lt v i; unfold B at this; omega
theorem mod_succ (v i : Nat) : v % B ^ (i + 1) = v % B ^ i + dig v i * B ^ i := by
  rw [Nat.mod_pow_succ, Nat.mul_comm]; rfl
theorem dig_mul_le (v i : Nat) : dig v i * B ^ i ≤ v := by
  have h := mod_succ v i
  have := Nat.mod_le v (B ^ (i + 1))
  rw [h] at this
  exact Nat.le_trans (Nat.le_add_left _ _) this
theorem dig_zero (i : Nat) : dig 0 i = 0 := by simp [dig]
theorem dig_big {v i : Nat} (h : v < B ^ i) : dig v i = 0 := by
  unfold dig; rw [Nat.div_eq_of_lt h]; rfl
theorem dig_one (v : Nat) : dig v 0 = v % B := by simp [dig]
def put (v i d : Nat) : Nat := v - dig v i * B ^ i + d * B ^ i
theorem put_add (v i d : Nat) : put v i d + dig v i * B ^ i = v + d * B ^ i := by
  have := dig_mul_le v i
  unfold put; omega
theorem split3 (v i : Nat) : v = v % B ^ i + dig v i * B ^ i + v / B ^ (i + 1) * B ^ (i + 1) := by
  have h := mod_succ v i
  have h2 := Nat.mod_add_div v (B ^ (i + 1))
  rw [Nat.mul_comm] at h2
  omega
theorem put_split (v i d : Nat) : put v i d = v % B ^ i + d * B ^ i + v / B ^ (i + 1) * B ^ (i + 1) := by
  have h := put_add v i d
  have h2 := split3 v i
  omega
theorem of_split {P l d h : Nat} (hl : l < P) (hd : d < B) : (l + d * P + h * (P * B)) % P = l ∧ (l + d * P + h * (P * B)) / P % B = d ∧ (l + d * P + h * (P * B)) / (P * B) = h := by
  have hP : 0 < P := by omega
  have e : l + d * P + h * (P * B) = l + P * (d + h * B) := by rw [Nat.mul_add, Nat.mul_comm d P, ← Nat.mul_assoc h P B, Nat.mul_comm h P, Nat.mul_assoc, Nat.add_assoc]
  refine ⟨?_, ?_, ?_⟩
  · rw [e, Nat.add_mul_mod_self_left, Nat.mod_eq_of_lt hl]
  · rw [e, Nat.add_mul_div_left _ _ hP, Nat.div_eq_of_lt hl, Nat.zero_add, Nat.add_mul_mod_self_right, Nat.mod_eq_of_lt hd]
  · rw [← Nat.div_div_eq_div_mul, e, Nat.add_mul_div_left _ _ hP, Nat.div_eq_of_lt hl, Nat.zero_add, Nat.add_mul_div_right _ _ B_pos, Nat.div_eq_of_lt hd, Nat.zero_add]
theorem dig_put_same {v i d : Nat} (hd : d < B) : dig (put v i d) i = d := by
  rw [put_split, Nat.pow_succ]
  exact (of_split (Nat.mod_lt _ (B_pow_pos i)) hd).2.1
theorem put_mod {v i d : Nat} (hd : d < B) : put v i d % B ^ i = v % B ^ i := by
  rw [put_split, Nat.pow_succ]
  exact (of_split (Nat.mod_lt _ (B_pow_pos i)) hd).1
theorem put_div {v i d : Nat} (hd : d < B) : put v i d / B ^ (i + 1) = v / B ^ (i + 1) := by
  rw [put_split, Nat.pow_succ]
  exact (of_split (Nat.mod_lt _ (B_pow_pos i)) hd).2.2
theorem dig_of_mod {v i j : Nat} (h : j < i) : dig (v % B ^ i) j = dig v j := by
  unfold dig
  rw [show B ^ i = B ^ j * B ^ (i - j) by rw [← Nat.pow_add]; congr 1; omega, Nat.mod_mul_right_div_self,
    show B ^ (i - j) = B * B ^ (i - j - 1) by rw [← Nat.pow_succ']; congr 1; omega, Nat.mod_mul_right_mod]
theorem dig_of_div {v i j : Nat} (h : i ≤ j) : dig v j = dig (v / B ^ i) (j - i) := by
  unfold dig
  rw [Nat.div_div_eq_div_mul, ← Nat.pow_add]; congr 3; omega
theorem dig_put_other {v i j d : Nat} (hd : d < B) (hj : j ≠ i) : dig (put v i d) j = dig v j := by
  rcases Nat.lt_or_gt_of_ne hj with h | h
  · rw [← dig_of_mod h, put_mod hd, dig_of_mod h]
  · rw [dig_of_div (v := put v i d) (i := i + 1) h, put_div hd, ← dig_of_div h]
theorem put_lt {v i d n : Nat} (hv : v < B ^ n) (hi : i < n) (hd : d < B) : put v i d < B ^ n := by
  have h1 : v / B ^ (i + 1) < B ^ (n - (i + 1)) := by
    rw [Nat.div_lt_iff_lt_mul (B_pow_pos _), ← Nat.pow_add, show n - (i + 1) + (i + 1) = n by omega]; exact hv
  have h2 := Nat.mod_lt v (B_pow_pos i)
  rw [put_split]
  have h3 : d * B ^ i + B ^ i ≤ B ^ (i + 1) := by
    rw [Nat.pow_succ, Nat.mul_comm (B ^ i) B, ← Nat.succ_mul]; exact Nat.mul_le_mul_right _ hd
  have h4 : v / B ^ (i + 1) * B ^ (i + 1) + B ^ (i + 1) ≤ B ^ n := by
    rw [← Nat.succ_mul, show B ^ n = B ^ (n - (i + 1)) * B ^ (i + 1) by rw [← Nat.pow_add]; congr 1; omega]
    exact Nat.mul_le_mul_right _ h1
  omega
def nl (v : Nat) : Nat := if v = 0 then 0 else v.log2 / 64 + 1
theorem B_pow_two (i : Nat) : B ^ i = 2 ^ (64 * i) := by
  rw [Nat.pow_mul]; rfl
theorem lt_nl (v : Nat) : v < B ^ nl v := by
  unfold nl
  split
  · subst_vars; simp
  · rename_i h
    rw [B_pow_two]
    refine Nat.lt_of_lt_of_le Nat.lt_log2_self (Nat.pow_le_pow_right (by omega) (by omega))
theorem nl_le {v n : Nat} (h : v < B ^ n) : nl v ≤ n := by
  unfold nl
  split
  · omega
  · rename_i hv
    rw [B_pow_two] at h
    have := (Nat.log2_lt hv).2 h
    omega
theorem le_of_nl {v : Nat} (hv : v ≠ 0) : B ^ (nl v - 1) ≤ v := by
  rcases Nat.lt_or_ge v (B ^ (nl v - 1)) with h | h
  · have := nl_le h
    have h0 : nl v ≠ 0 := by unfold nl; simp [hv]
    omega
  · exact h
theorem nl_zero : nl 0 = 0 := rfl
theorem nl_pos {v : Nat} (hv : v ≠ 0) : 0 < nl v := by unfold nl; simp [hv]
theorem nl_eq_zero {v : Nat} : nl v = 0 ↔ v = 0 := by
  constructor
  · intro h; rcases Nat.eq_zero_or_pos v with h' | h'
    · exact h'
    · have := nl_pos (v := v) (by omega); omega
  · rintro rfl; rfl
theorem nl_mono {u v : Nat} (h : u ≤ v) : nl u ≤ nl v := nl_le (Nat.lt_of_le_of_lt h (lt_nl v))
theorem nl_eq {v n : Nat} (h1 : v < B ^ (n + 1)) (h2 : B ^ n ≤ v) : nl v = n + 1 := by
  have := nl_le h1
  rcases Nat.lt_or_ge (nl v) (n + 1) with h | h
  · have h3 := lt_nl v
    have := Nat.pow_le_pow_right B_pos (show nl v ≤ n by omega)
    omega
  · omega
theorem dig_top {v : Nat} (hv : v ≠ 0) : dig v (nl v - 1) ≠ 0 := by
  have h1 := le_of_nl hv
  have h2 := lt_nl v
  have h3 := nl_pos hv
  unfold dig
  rw [Nat.mod_eq_of_lt]
  · exact Nat.ne_of_gt (Nat.div_pos h1 (B_pow_pos _))
  · rw [Nat.div_lt_iff_lt_mul (B_pow_pos _), ← Nat.pow_succ', show (nl v - 1).succ = nl v by omega]; exact h2
theorem nl_mul_le (u v : Nat) : nl (u * v) ≤ nl u + nl v := by
  apply nl_le
  rw [Nat.pow_add]
  rcases Nat.eq_zero_or_pos v with h | h
  · subst h; simp; exact Nat.mul_pos (B_pow_pos _) (B_pow_pos _)
  · exact Nat.mul_lt_mul'' (lt_nl u) (lt_nl v)
theorem nl_add_le (u v : Nat) : nl (u + v) ≤ max (nl u) (nl v) + 1 := by
  apply nl_le
  have h1 := Nat.lt_of_lt_of_le (lt_nl u) (Nat.pow_le_pow_right B_pos (Nat.le_max_left (nl u) (nl v)))
  have h2 := Nat.lt_of_lt_of_le (lt_nl v) (Nat.pow_le_pow_right B_pos (Nat.le_max_right (nl u) (nl v)))
  rw [Nat.pow_succ]
  have := Nat.mul_le_mul_left (B ^ max (nl u) (nl v)) B_two
  omega
theorem add_step {X X' Y i c : Nat} (h : X' + c * B ^ i = X + Y % B ^ i) :
    put X' i ((dig X' i + dig Y i + c) % B) + (dig X' i + dig Y i + c) / B * B ^ (i + 1) = X + Y % B ^ (i + 1) := by
  have h1 := put_add X' i ((dig X' i + dig Y i + c) % B)
  have h2 := mod_succ Y i
  have h3 := Nat.mod_add_div (dig X' i + dig Y i + c) B
  generalize (dig X' i + dig Y i + c) % B = r at *
  generalize (dig X' i + dig Y i + c) / B = q at *
  have h4 : (r + B * q) * B ^ i = (dig X' i + dig Y i + c) * B ^ i := by rw [h3]
  have h5 : q * B ^ (i + 1) = B * q * B ^ i := by rw [Nat.pow_succ, Nat.mul_comm (B ^ i) B, ← Nat.mul_assoc, Nat.mul_comm q B]
  simp only [Nat.add_mul] at h4
  omega
theorem sub_step {X X' Y i c s q : Nat} (h : X' + Y % B ^ i = X + c * B ^ i) (hs : s + dig Y i + c = dig X' i + q * B) :
    put X' i s + Y % B ^ (i + 1) = X + q * B ^ (i + 1) := by
  have h1 := put_add X' i s
  have h2 := mod_succ Y i
  have h4 : (s + dig Y i + c) * B ^ i = (dig X' i + q * B) * B ^ i := by rw [hs]
  have h5 : q * B ^ (i + 1) = q * B * B ^ i := by rw [Nat.pow_succ, Nat.mul_comm (B ^ i) B, ← Nat.mul_assoc]
  simp only [Nat.add_mul] at h4
  omega
theorem addmul_step {X X' Y f i c : Nat} (h : X' + c * B ^ i = X + Y % B ^ i * f) :
    put X' i ((dig X' i + dig Y i * f + c) % B) + (dig X' i + dig Y i * f + c) / B * B ^ (i + 1) = X + Y % B ^ (i + 1) * f := by
  have h1 := put_add X' i ((dig X' i + dig Y i * f + c) % B)
  have h2 := mod_succ Y i
  have h3 := Nat.mod_add_div (dig X' i + dig Y i * f + c) B
  generalize (dig X' i + dig Y i * f + c) % B = r at *
  generalize (dig X' i + dig Y i * f + c) / B = q at *
  have h4 : (r + B * q) * B ^ i = (dig X' i + dig Y i * f + c) * B ^ i := by rw [h3]
  have h5 : q * B ^ (i + 1) = B * q * B ^ i := by rw [Nat.pow_succ, Nat.mul_comm (B ^ i) B, ← Nat.mul_assoc, Nat.mul_comm q B]
  have h6 : Y % B ^ (i + 1) * f = Y % B ^ i * f + dig Y i * f * B ^ i := by rw [h2, Nat.add_mul, Nat.mul_right_comm]
  simp only [Nat.add_mul] at h4
  omega
theorem submul_step {X X' Y f i c s q : Nat} (h : X' + Y % B ^ i * f = X + c * B ^ i) (hs : s + dig Y i * f + c = dig X' i + q * B) :
    put X' i s + Y % B ^ (i + 1) * f = X + q * B ^ (i + 1) := by
  have h1 := put_add X' i s
  have h2 := mod_succ Y i
  have h4 : (s + dig Y i * f + c) * B ^ i = (dig X' i + q * B) * B ^ i := by rw [hs]
  have h5 : q * B ^ (i + 1) = q * B * B ^ i := by rw [Nat.pow_succ, Nat.mul_comm (B ^ i) B, ← Nat.mul_assoc]
  have h6 : Y % B ^ (i + 1) * f = Y % B ^ i * f + dig Y i * f * B ^ i := by rw [h2, Nat.add_mul, Nat.mul_right_comm]
  simp only [Nat.add_mul] at h4
  omega
theorem addmul_carry {x y f c : Nat} (hx : x < B) (hy : y < B) (hf : f < B) (hc : c < B) : (x + y * f + c) / B < B := by
  have h1 : y * f ≤ (B - 1) * (B - 1) := Nat.mul_le_mul (by omega) (by omega)
  rw [Nat.div_lt_iff_lt_mul B_pos]
  unfold B at *
  omega
theorem add_step0 {X X' i c : Nat} (h : X' + c * B ^ i = X) :
    put X' i ((dig X' i + c) % B) + (dig X' i + c) / B * B ^ (i + 1) = X := by
  have h1 := put_add X' i ((dig X' i + c) % B)
  have h3 := Nat.mod_add_div (dig X' i + c) B
  generalize (dig X' i + c) % B = r at *
  generalize (dig X' i + c) / B = q at *
  have h4 : (r + B * q) * B ^ i = (dig X' i + c) * B ^ i := by rw [h3]
  have h5 : q * B ^ (i + 1) = B * q * B ^ i := by rw [Nat.pow_succ, Nat.mul_comm (B ^ i) B, ← Nat.mul_assoc, Nat.mul_comm q B]
  simp only [Nat.add_mul] at h4
  omega
theorem sub_step0' {X X' Y i c s q : Nat} (h : X' + Y = X + c * B ^ i) (hs : s + c = dig X' i + q * B) :
    put X' i s + Y = X + q * B ^ (i + 1) := by
  have h1 := put_add X' i s
  have h4 : (s + c) * B ^ i = (dig X' i + q * B) * B ^ i := by rw [hs]
  have h5 : q * B ^ (i + 1) = q * B * B ^ i := by rw [Nat.pow_succ, Nat.mul_comm (B ^ i) B, ← Nat.mul_assoc]
  simp only [Nat.add_mul] at h4
  omega
theorem dig_shift (v i j : Nat) : dig (v / B ^ i) j = dig v (i + j) := by
  rw [dig_of_div (v := v) (i := i) (j := i + j) (by omega)]; congr 1; omega
theorem dig_mul_pow_low {v n j : Nat} (h : j < n) : dig (v * B ^ n) j = 0 := by
  rw [← dig_of_mod h, Nat.mul_mod_left, dig_zero]
theorem dig_add_low {l h n j : Nat} (hl : l < B ^ n) (hj : j < n) : dig (l + h * B ^ n) j = dig l j := by
  rw [← dig_of_mod hj, Nat.add_mul_mod_self_right, Nat.mod_eq_of_lt hl]
theorem dig_add_high {l h n j : Nat} (hl : l < B ^ n) : dig (l + h * B ^ n) (n + j) = dig h j := by
  rw [← dig_shift, Nat.add_mul_div_right _ _ (B_pow_pos n), Nat.div_eq_of_lt hl, Nat.zero_add]
theorem div_succ (x j : Nat) : x / B ^ j = x / B ^ (j + 1) * B + dig x j := by
  unfold dig
  rw [Nat.pow_succ, ← Nat.div_div_eq_div_mul]
  have := Nat.mod_add_div (x / B ^ j) B
  rw [Nat.mul_comm] at this
  omega
theorem lt_of_dig {x y j : Nat} (h : x / B ^ (j + 1) = y / B ^ (j + 1)) (hd : dig x j < dig y j) : x < y := by
  have h1 := div_succ x j
  have h2 := div_succ y j
  rcases Nat.lt_or_ge x y with h3 | h3
  · exact h3
  · have := Nat.div_le_div_right (c := B ^ j) h3
    rw [h] at h1
    omega
theorem lt_of_nl {x y : Nat} (h : nl x < nl y) : x < y := by
  rcases Nat.lt_or_ge x y with h3 | h3
  · exact h3
  · have := nl_mono h3; omega
theorem put_mod_dig (y j : Nat) : put (y % B ^ j) j (dig y j) = y % B ^ (j + 1) := by
  have h := put_add (y % B ^ j) j (dig y j)
  rw [dig_big (Nat.mod_lt _ (B_pow_pos j)), Nat.zero_mul, Nat.add_zero] at h
  rw [h, mod_succ]
theorem addmul_words {x y f c hi lo l1 c1 x2 c2 : Nat} (hx : x < B) (hy : y < B) (hf : f < B) (hc : c < B)
    (h1 : y * f / B = hi) (h2 : y * f % B = lo) (h3 : (lo + c) % B = l1) (h4 : (lo + c) / B = c1) (h5 : (x + l1) % B = x2) (h6 : (x + l1) / B = c2) :
    x2 = (x + y * f + c) % B ∧ hi + c1 + c2 = (x + y * f + c) / B ∧ hi + c1 ≤ 18446744073709551615 ∧ hi + c1 + c2 ≤ 18446744073709551615 ∧ c2 ≤ 1 := by
  have h7 := Nat.mod_add_div (y * f) B
  have h8 := Nat.mod_add_div (lo + c) B
  have h9 := Nat.mod_add_div (x + l1) B
  rw [h1, h2] at h7
  rw [h3, h4] at h8
  rw [h5, h6] at h9
  have hx2 : x2 < B := by rw [← h5]; exact Nat.mod_lt _ B_pos
  have hl1 : l1 < B := by rw [← h3]; exact Nat.mod_lt _ B_pos
  have hk := addmul_carry hx hy hf hc
  have e : x + y * f + c = x2 + (hi + c1 + c2) * B := by
    rw [← h7]
    have : (hi + c1 + c2) * B = B * hi + B * c1 + B * c2 := by rw [Nat.mul_comm, Nat.mul_add, Nat.mul_add]
    omega
  have e1 : (x + y * f + c) % B = x2 := by rw [e, Nat.add_mul_mod_self_right, Nat.mod_eq_of_lt hx2]
  have e2 : (x + y * f + c) / B = hi + c1 + c2 := by rw [e, Nat.add_mul_div_right _ _ B_pos, Nat.div_eq_of_lt hx2, Nat.zero_add]
  rw [e2] at hk
  have hc2 : c2 ≤ 1 := by rw [← h6]; unfold B at *; omega
  refine ⟨e1.symm, e2.symm, ?_, ?_, hc2⟩ <;> (unfold B at hk; omega)
theorem submul_words {x y f c hi lo l1 c1 x2 c2 : Nat} (hy : y < B) (hf : f < B) (hc : c < B)
    (h1 : y * f / B = hi) (h2 : y * f % B = lo) (h3 : (lo + c) % B = l1) (h4 : (lo + c) / B = c1) (h5 : x2 + l1 = x + c2 * B) (hx2 : x2 < B) :
    x2 + y * f + c = x + (hi + c1 + c2) * B ∧ hi + c1 ≤ 18446744073709551615 ∧ hi + c1 + c2 ≤ 18446744073709551615 := by
  have h7 := Nat.mod_add_div (y * f) B
  have h8 := Nat.mod_add_div (lo + c) B
  rw [h1, h2] at h7
  rw [h3, h4] at h8
  have hk := addmul_carry hx2 hy hf hc
  have e : x2 + y * f + c = x + (hi + c1 + c2) * B := by
    rw [← h7]
    have : (hi + c1 + c2) * B = B * hi + B * c1 + c2 * B := by rw [Nat.add_mul, Nat.add_mul, Nat.mul_comm hi, Nat.mul_comm c1]
    omega
  have e2 : hi + c1 + c2 ≤ (x2 + y * f + c) / B := by
    rw [e, Nat.add_mul_div_right _ _ B_pos]; exact Nat.le_add_left _ _
  refine ⟨e, ?_, ?_⟩ <;> (unfold B at hk e2; omega)
end Dg
end Go.Proofs.YtlncagdekfjinaaGreatDoor
namespace Go.Proofs.YtlncagdekfjinaaGreatDoor
namespace Dg
def bl (x : Nat) : Nat := if x = 0 then 0 else x.log2 + 1
theorem lt_bl (x : Nat) : x < 2 ^ bl x := by
  unfold bl; split
  · subst_vars; decide
  · exact Nat.lt_log2_self
theorem bl_le {x n : Nat} (h : x < 2 ^ n) : bl x ≤ n := by
  unfold bl; split
  · omega
  · rename_i hx; exact (Nat.log2_lt hx).2 h
theorem bl_pos {x : Nat} (h : x ≠ 0) : 0 < bl x := by unfold bl; simp [h]
theorem le_of_bl {x : Nat} (h : x ≠ 0) : 2 ^ (bl x - 1) ≤ x := by
  rcases Nat.lt_or_ge x (2 ^ (bl x - 1)) with h1 | h1
  · have := bl_le h1; have := bl_pos h; omega
  · exact h1
theorem bl_eq {x n : Nat} (h1 : x < 2 ^ (n + 1)) (h2 : 2 ^ n ≤ x) : bl x = n + 1 := by
  have := bl_le h1
  rcases Nat.lt_or_ge (bl x) (n + 1) with h | h
  · have h3 := lt_bl x
    have := Nat.pow_le_pow_right (show 0 < 2 by omega) (show bl x ≤ n by omega)
    omega
  · omega
theorem lt_of_bl_le {x n : Nat} (h : bl x ≤ n) : x < 2 ^ n := Nat.lt_of_lt_of_le (lt_bl x) (Nat.pow_le_pow_right (by omega) h)
theorem bitLenAux_eq : ∀ (f x : Nat), x < 2 ^ f → Lib.bitLenAux f x = bl x
  | 0, x, h => by simp at h; subst h; rfl
  | f + 1, x, h => by
    unfold Lib.bitLenAux
    split
    · subst_vars; rfl
    · rename_i hx
      rw [bitLenAux_eq f (x / 2) (by rw [Nat.pow_succ] at h; omega)]
      by_cases h1 : x = 1
      · subst h1; rfl
      · have h2 : x / 2 ≠ 0 := by omega
        have h3 := lt_bl (x / 2)
        have h4 := le_of_bl h2
        have h5 := bl_pos h2
        rw [Nat.add_comm]
        symm
        apply bl_eq
        · rw [Nat.pow_succ]; omega
        · rw [show bl (x / 2) = bl (x / 2) - 1 + 1 by omega, Nat.pow_succ]; omega
theorem bitLen_eq {x : Nat} (h : x < B) : Lib.bitLen x = bl x := bitLenAux_eq 64 x h
theorem B_two64 : B = 2 ^ 64 := rfl
theorem bl_top {x : Nat} (hx : x ≠ 0) : bl x = 64 * (nl x - 1) + bl (dig x (nl x - 1)) := by
  have hd := dig_top hx
  have h0 := nl_pos hx
  have h1 := div_succ x (nl x - 1)
  have h2 : x / B ^ (nl x - 1 + 1) = 0 := Nat.div_eq_of_lt (by rw [show nl x - 1 + 1 = nl x by omega]; exact lt_nl x)
  rw [h2, Nat.zero_mul, Nat.zero_add] at h1
  have h3 := lt_bl (dig x (nl x - 1))
  have h4 := le_of_bl hd
  have h5 := bl_pos hd
  rw [← h1] at h3 h4 h5 ⊢
  have e : 64 * (nl x - 1) + bl (x / B ^ (nl x - 1)) = 64 * (nl x - 1) + (bl (x / B ^ (nl x - 1)) - 1) + 1 := by omega
  rw [e]
  apply bl_eq
  · rw [Nat.add_assoc, show bl (x / B ^ (nl x - 1)) - 1 + 1 = bl (x / B ^ (nl x - 1)) by omega, Nat.pow_add, ← B_pow_two]
    rw [Nat.div_lt_iff_lt_mul (B_pow_pos _), Nat.mul_comm] at h3
    exact h3
  · rw [Nat.pow_add, ← B_pow_two]
    rw [Nat.le_div_iff_mul_le (B_pow_pos _), Nat.mul_comm] at h4
    exact h4
def tz (x : Nat) : Nat := if x = 0 then 0 else Lib.ctzFrom (x.log2 + 1) x
theorem odd_split {a b m k : Nat} (h : 2 ^ a * (2 * m + 1) = 2 ^ b * (2 * k + 1)) : a = b := by
  rcases Nat.lt_trichotomy a b with h1 | h1 | h1
  · obtain ⟨d, rfl⟩ : ∃ d, b = a + (d + 1) := ⟨b - a - 1, by omega⟩
    rw [Nat.pow_add, Nat.mul_assoc] at h
    have := Nat.eq_of_mul_eq_mul_left (Nat.pow_pos (by omega)) h
    rw [Nat.pow_succ, Nat.mul_assoc, Nat.mul_left_comm] at this
    omega
  · exact h1
  · obtain ⟨d, rfl⟩ : ∃ d, a = b + (d + 1) := ⟨a - b - 1, by omega⟩
    rw [Nat.pow_add, Nat.mul_assoc] at h
    have := Nat.eq_of_mul_eq_mul_left (Nat.pow_pos (by omega)) h
    rw [Nat.pow_succ, Nat.mul_assoc, Nat.mul_left_comm] at this
    omega
theorem tz_spec {x : Nat} (hx : x ≠ 0) : ∃ m, x = 2 ^ tz x * (2 * m + 1) := by
  unfold tz; rw [if_neg hx]
  obtain ⟨m, hm, _⟩ := Lib.ctzFrom_spec (x.log2 + 1) x (by omega) Nat.lt_log2_self
  exact ⟨m, hm⟩
theorem tz_eq {x a m : Nat} (h : x = 2 ^ a * (2 * m + 1)) : tz x = a := by
  have hx : x ≠ 0 := by
    have := Nat.mul_pos (Nat.pow_pos (n := a) (show 0 < 2 by omega)) (show 0 < 2 * m + 1 by omega)
    omega
  obtain ⟨k, hk⟩ := tz_spec hx
  exact odd_split (hk.symm.trans h)
theorem tz_dvd (x : Nat) : 2 ^ tz x ∣ x := by
  by_cases h : x = 0
  · subst h; exact Nat.dvd_zero _
  · obtain ⟨m, hm⟩ := tz_spec h
    exact ⟨2 * m + 1, hm⟩
theorem tz_le {x n : Nat} (hx : x ≠ 0) (h : x < 2 ^ n) : tz x < n := by
  obtain ⟨m, hm⟩ := tz_spec hx
  rcases Nat.lt_or_ge (tz x) n with h1 | h1
  · exact h1
  · have h2 := Nat.pow_le_pow_right (show 0 < 2 by omega) h1
    have h3 : 2 ^ tz x ≤ 2 ^ tz x * (2 * m + 1) := Nat.le_mul_of_pos_right _ (by omega)
    omega
theorem ctz_spec {x : Nat} (h0 : x ≠ 0) (h : x < B) : ∃ m, x = 2 ^ Lib.ctz 64 x * (2 * m + 1) ∧ Lib.ctz 64 x < 64 := by
  unfold Lib.ctz; rw [if_neg h0]
  exact Lib.ctzFrom_spec 64 x (by omega) h
theorem tz_digits {x i : Nat} (hz : x % B ^ i = 0) (hd : dig x i ≠ 0) : tz x = 64 * i + Lib.ctz 64 (dig x i) := by
  obtain ⟨m, hm, hk⟩ := ctz_spec hd (dig_lt _ _)
  have h1 := div_succ x i
  have h2 := Nat.mod_add_div x (B ^ i)
  rw [hz, Nat.zero_add] at h2
  generalize Lib.ctz 64 (dig x i) = k at *
  have h3 : B = 2 ^ k * (2 * 2 ^ (63 - k)) := by
    rw [B_two64, ← Nat.pow_succ', ← Nat.pow_add]; congr 1; omega
  generalize x / B ^ (i + 1) = q at *
  refine tz_eq (m := q * 2 ^ (63 - k) + m) ?_
  rw [← h2, h1, hm, Nat.pow_add 2 (64 * i) k, ← B_pow_two, Nat.mul_assoc]
  congr 1
  generalize 2 ^ (63 - k) = e at *
  generalize 2 ^ k = f at *
  rw [h3]
  grind
def win (x a : Nat) : Nat := x / 2 ^ a % B
theorem win_lt (x a : Nat) : win x a < B := Nat.mod_lt _ B_pos
theorem two_split {s : Nat} (h : s ≤ 64) : B = 2 ^ s * 2 ^ (64 - s) := by
  rw [B_two64, ← Nat.pow_add]; congr 1; omega
theorem or_disjoint {a b k : Nat} (h : b < 2 ^ k) : b ||| (2 ^ k * a) = b + 2 ^ k * a := by
  rw [Nat.or_comm, ← Nat.two_pow_add_eq_or_of_lt h, Nat.add_comm]
theorem win_or {x i s : Nat} (hs : s < 64) : (dig x i / 2 ^ s) ||| (dig x (i + 1) * 2 ^ (64 - s) % B) = win x (64 * i + s) := by
  have hB := two_split (Nat.le_of_lt hs)
  have h1 := div_succ x i
  have h2 := div_succ x (i + 1)
  have e1 : dig x (i + 1) * 2 ^ (64 - s) % B = 2 ^ (64 - s) * (dig x (i + 1) % 2 ^ s) := by
    rw [hB, Nat.mul_comm (2 ^ s), Nat.mul_comm (dig x (i + 1)), Nat.mul_mod_mul_left]
  have hl : dig x i / 2 ^ s < 2 ^ (64 - s) := by
    rw [Nat.div_lt_iff_lt_mul (Nat.pow_pos (by omega)), Nat.mul_comm, ← hB]; exact dig_lt _ _
  rw [e1, or_disjoint hl]
  unfold win
  rw [Nat.pow_add, ← B_pow_two, ← Nat.div_div_eq_div_mul, h1, h2]
  generalize x / B ^ (i + 1 + 1) = q
  generalize dig x (i + 1) = h at *
  generalize dig x i = l at *
  have hp : 0 < 2 ^ s := Nat.pow_pos (by omega)
  have e2 : ((q * B + h) * B + l) / 2 ^ s = (q * B + h) * 2 ^ (64 - s) + l / 2 ^ s := by
    have : (q * B + h) * B + l = l + 2 ^ s * ((q * B + h) * 2 ^ (64 - s)) := by
      generalize q * B + h = z
      rw [hB]; grind
    rw [this, Nat.add_mul_div_left _ _ hp, Nat.add_comm]
  rw [e2]
  have e3 : (q * B + h) * 2 ^ (64 - s) + l / 2 ^ s = 2 ^ (64 - s) * (h % 2 ^ s) + l / 2 ^ s + B * (q * 2 ^ (64 - s) + h / 2 ^ s) := by
    have := Nat.mod_add_div h (2 ^ s)
    generalize h % 2 ^ s = a at *
    generalize h / 2 ^ s = b at *
    rw [← this]
    generalize l / 2 ^ s = c
    rw [show B * (q * 2 ^ (64 - s) + b) = B * q * 2 ^ (64 - s) + B * b by grind]
    have : B * b = 2 ^ s * 2 ^ (64 - s) * b := by rw [← hB]
    rw [this]; grind
  have h5 : h % 2 ^ s + 1 ≤ 2 ^ s := Nat.mod_lt _ hp
  have h6 := Nat.mul_le_mul_left (2 ^ (64 - s)) h5
  rw [Nat.mul_add, Nat.mul_one, Nat.mul_comm (2 ^ (64 - s)) (2 ^ s), ← hB] at h6
  have h7 : 2 ^ (64 - s) * (h % 2 ^ s) + l / 2 ^ s < B := by
    clear e3 e2 e1 h1 h2 hB h5
    generalize 2 ^ (64 - s) * (h % 2 ^ s) = u at *
    omega
  rw [e3, Nat.add_mul_mod_self_left, Nat.mod_eq_of_lt h7, Nat.add_comm]
theorem dig_right (x n i : Nat) : dig (x / 2 ^ n) i = win x (64 * i + n) := by
  unfold dig win
  rw [B_pow_two, Nat.div_div_eq_div_mul, ← Nat.pow_add, Nat.add_comm n]
theorem bl_le_nl (x : Nat) : bl x ≤ 64 * nl x := bl_le (by rw [← B_pow_two]; exact lt_nl x)
theorem nl_right (x n : Nat) : nl (x / 2 ^ n) ≤ nl x - n / 64 := by
  apply nl_le
  rw [Nat.div_lt_iff_lt_mul (Nat.pow_pos (by omega))]
  have h1 := lt_nl x
  have h2 : B ^ nl x ≤ B ^ (nl x - n / 64) * 2 ^ n := by
    rw [B_pow_two, B_pow_two, ← Nat.pow_add]
    exact Nat.pow_le_pow_right (by omega) (by omega)
  omega
def lsh (x n k : Nat) : Nat := x % B ^ k * 2 ^ n
theorem lsh_zero (x n : Nat) : lsh x n 0 = 0 := by simp [lsh, Nat.mod_one]
theorem lsh_succ (x n k : Nat) : lsh x n (k + 1) = lsh x n k + dig x k * 2 ^ (n % 64) * B ^ (k + n / 64) := by
  unfold lsh
  have h : 2 ^ n = 2 ^ (n % 64) * B ^ (n / 64) := by rw [B_pow_two, ← Nat.pow_add]; congr 1; omega
  rw [mod_succ, h, Nat.pow_add]
  grind
theorem lsh_lt (x n k : Nat) : lsh x n k < 2 ^ (n % 64) * B ^ (k + n / 64) := by
  unfold lsh
  have h : 2 ^ n = 2 ^ (n % 64) * B ^ (n / 64) := by rw [B_pow_two, ← Nat.pow_add]; congr 1; omega
  rw [h, Nat.pow_add, Nat.mul_comm, Nat.mul_assoc, Nat.mul_comm (B ^ (n / 64))]
  exact Nat.mul_lt_mul_of_pos_left (Nat.mul_lt_mul_of_pos_right (Nat.mod_lt _ (B_pow_pos _)) (B_pow_pos _)) (Nat.pow_pos (by omega))
theorem lsh_step (x n k : Nat) :
    put (put (lsh x n k) (k + n / 64) (dig (lsh x n k) (k + n / 64) ||| dig x k * 2 ^ (n % 64) % B)) (k + n / 64 + 1) (dig x k / 2 ^ (64 - n % 64)) = lsh x n (k + 1) ∧
    dig (lsh x n k) (k + n / 64) ||| dig x k * 2 ^ (n % 64) % B < B ∧ dig x k / 2 ^ (64 - n % 64) < B := by
  rw [lsh_succ]
  have hV := lsh_lt x n k
  generalize lsh x n k = V at *
  generalize k + n / 64 = i at *
  have hr : n % 64 < 64 := Nat.mod_lt _ (by omega)
  generalize n % 64 = r at *
  have hd := dig_lt x k
  generalize dig x k = d at *
  have hB := two_split (Nat.le_of_lt hr)
  have hP := B_pow_pos i
  have hS : 0 < 2 ^ r := Nat.pow_pos (by omega)
  have hh : dig V i < 2 ^ r := by
    unfold dig
    refine Nat.lt_of_le_of_lt (Nat.mod_le _ _) ?_
    rw [Nat.div_lt_iff_lt_mul hP]; exact hV
  have hVd : dig V i * B ^ i ≤ V := dig_mul_le V i
  have e1 : d * 2 ^ r % B = 2 ^ r * (d % 2 ^ (64 - r)) := by
    rw [hB, Nat.mul_comm d, Nat.mul_mod_mul_left]
  have e2 := Nat.mod_add_div d (2 ^ (64 - r))
  have hm : d % 2 ^ (64 - r) < 2 ^ (64 - r) := Nat.mod_lt _ (Nat.pow_pos (by omega))
  have hq : d / 2 ^ (64 - r) < B := Nat.lt_of_le_of_lt (Nat.div_le_self _ _) hd
  rw [e1, or_disjoint hh]
  generalize d % 2 ^ (64 - r) = m at *
  generalize d / 2 ^ (64 - r) = q at *
  have hlB : 2 ^ r * m + 2 ^ r ≤ B := by
    rw [hB, ← Nat.mul_succ]; exact Nat.mul_le_mul_left _ hm
  have hsum : dig V i + 2 ^ r * m < B := by omega
  have p1 := put_add V i (dig V i + 2 ^ r * m)
  rw [Nat.add_mul] at p1
  have p2 : put V i (dig V i + 2 ^ r * m) = V + 2 ^ r * m * B ^ i := by omega
  have hlt : V + 2 ^ r * m * B ^ i < B ^ (i + 1) := by
    have := Nat.mul_le_mul_right (B ^ i) hlB
    rw [Nat.add_mul] at this
    rw [Nat.pow_succ, Nat.mul_comm (B ^ i)]
    omega
  have p3 := put_add (V + 2 ^ r * m * B ^ i) (i + 1) q
  rw [dig_big hlt, Nat.zero_mul, Nat.add_zero] at p3
  refine ⟨?_, hsum, hq⟩
  rw [p2, p3, ← e2, Nat.pow_succ, Nat.add_assoc]
  congr 1
  have : q * (B ^ i * B) = 2 ^ (64 - r) * q * 2 ^ r * B ^ i := by
    rw [show q * (B ^ i * B) = q * B ^ i * B by rw [Nat.mul_assoc]]
    conv => lhs; rw [hB]
    grind
  rw [this, ← Nat.add_mul, Nat.add_mul m]
  congr 1
  rw [Nat.mul_comm m]
end Dg
end Go.Proofs.YtlncagdekfjinaaGreatDoor
