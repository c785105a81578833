/- The reference's natural numbers. -/
import Derived.Test.YtafckcmieepmaaaGreatDoorBase
import Derived.OwnWalk
import Derived.Laws.OwnMore
import Derived.Deep.AppendLies
namespace Go.Proofs.YtafckcmieepmaaaGreatDoor
namespace D3
def B : Nat := 4294967296
theorem B_eq : B = 4294967296 := rfl
theorem B_pos : 0 < B := by unfold B; omega
theorem B_two : 2 ≤ B := by unfold B; omega
theorem B_pow_pos (i : Nat) : 0 < B ^ i := Nat.pow_pos B_pos
def dig (v i : Nat) : Nat := v / B ^ i % B
theorem dig_lt (v i : Nat) : dig v i < B := Nat.mod_lt _ B_pos
theorem dig_le (v i : Nat) : dig v i ≤ 4294967295 := by have := dig_lt v i; unfold B at this; omega
theorem mod_succ (v i : Nat) : v % B ^ (i + 1) = v % B ^ i + dig v i * B ^ i := by
  rw [Nat.mod_pow_succ, Nat.mul_comm]; rfl
theorem dig_mul_le (v i : Nat) : dig v i * B ^ i ≤ v := by
  have h := mod_succ v i
  have := Nat.mod_le v (B ^ (i + 1))
  rw [h] at this
  exact Nat.le_trans (Nat.le_add_left _ _) this
theorem dig_zero (i : Nat) : dig 0 i = 0 := by simp [dig]
theorem dig_big {v i : Nat} (h : v < B ^ i) : dig v i = 0 := by
  unfold dig; rw [Nat.div_eq_of_lt h]; rfl
theorem dig_one (v : Nat) : dig v 0 = v % B := by simp [dig]
def put (v i d : Nat) : Nat := v - dig v i * B ^ i + d * B ^ i
theorem put_add (v i d : Nat) : put v i d + dig v i * B ^ i = v + d * B ^ i := by
  have := dig_mul_le v i
  unfold put; omega
theorem split3 (v i : Nat) : v = v % B ^ i + dig v i * B ^ i + v / B ^ (i + 1) * B ^ (i + 1) := by
  have h := mod_succ v i
  have h2 := Nat.mod_add_div v (B ^ (i + 1))
  rw [Nat.mul_comm] at h2
  omega
theorem put_split (v i d : Nat) : put v i d = v % B ^ i + d * B ^ i + v / B ^ (i + 1) * B ^ (i + 1) := by
  have h := put_add v i d
  have h2 := split3 v i
  omega
theorem of_split {P l d h : Nat} (hl : l < P) (hd : d < B) : (l + d * P + h * (P * B)) % P = l ∧ (l + d * P + h * (P * B)) / P % B = d ∧ (l + d * P + h * (P * B)) / (P * B) = h := by
  have hP : 0 < P := by omega
  have e : l + d * P + h * (P * B) = l + P * (d + h * B) := by rw [Nat.mul_add, Nat.mul_comm d P, ← Nat.mul_assoc h P B, Nat.mul_comm h P, Nat.mul_assoc, Nat.add_assoc]
  refine ⟨?_, ?_, ?_⟩
  · rw [e, Nat.add_mul_mod_self_left, Nat.mod_eq_of_lt hl]
  · rw [e, Nat.add_mul_div_left _ _ hP, Nat.div_eq_of_lt hl, Nat.zero_add, Nat.add_mul_mod_self_right, Nat.mod_eq_of_lt hd]
  · rw [← Nat.div_div_eq_div_mul, e, Nat.add_mul_div_left _ _ hP, Nat.div_eq_of_lt hl, Nat.zero_add, Nat.add_mul_div_right _ _ B_pos, Nat.div_eq_of_lt hd, Nat.zero_add]
theorem dig_put_same {v i d : Nat} (hd : d < B) : dig (put v i d) i = d := by
  rw [put_split, Nat.pow_succ]
  exact (of_split (Nat.mod_lt _ (B_pow_pos i)) hd).2.1
theorem put_mod {v i d : Nat} (hd : d < B) : put v i d % B ^ i = v % B ^ i := by
  rw [put_split, Nat.pow_succ]
  exact (of_split (Nat.mod_lt _ (B_pow_pos i)) hd).1
theorem put_div {v i d : Nat} (hd : d < B) : put v i d / B ^ (i + 1) = v / B ^ (i + 1) := by
  rw [put_split, Nat.pow_succ]
  exact (of_split (Nat.mod_lt _ (B_pow_pos i)) hd).2.2
theorem dig_of_mod {v i j : Nat} (h : j < i) : dig (v % B ^ i) j = dig v j := by
  unfold dig
  rw [show B ^ i = B ^ j * B ^ (i - j) by rw [← Nat.pow_add]; congr 1; omega, Nat.mod_mul_right_div_self,
    show B ^ (i - j) = B * B ^ (i - j - 1) by rw [← Nat.pow_succ']; congr 1; omega, Nat.mod_mul_right_mod]
theorem dig_of_div {v i j : Nat} (h : i ≤ j) : dig v j = dig (v / B ^ i) (j - i) := by
  unfold dig
  rw [Nat.div_div_eq_div_mul, ← Nat.pow_add]; congr 3; omega
theorem dig_put_other {v i j d : Nat} (hd : d < B) (hj : j ≠ i) : dig (put v i d) j = dig v j := by
  rcases Nat.lt_or_gt_of_ne hj with h | h
  · rw [← dig_of_mod h, put_mod hd, dig_of_mod h]
  · rw [dig_of_div (v := put v i d) (i := i + 1) h, put_div hd, ← dig_of_div h]
theorem put_lt {v i d n : Nat} (hv : v < B ^ n) (hi : i < n) (hd : d < B) : put v i d < B ^ n := by
  have h1 : v / B ^ (i + 1) < B ^ (n - (i + 1)) := by
    rw [Nat.div_lt_iff_lt_mul (B_pow_pos _), ← Nat.pow_add, show n - (i + 1) + (i + 1) = n by omega]; exact hv
  have h2 := Nat.mod_lt v (B_pow_pos i)
  rw [put_split]
  have h3 : d * B ^ i + B ^ i ≤ B ^ (i + 1) := by
    rw [Nat.pow_succ, Nat.mul_comm (B ^ i) B, ← Nat.succ_mul]; exact Nat.mul_le_mul_right _ hd
  have h4 : v / B ^ (i + 1) * B ^ (i + 1) + B ^ (i + 1) ≤ B ^ n := by
    rw [← Nat.succ_mul, show B ^ n = B ^ (n - (i + 1)) * B ^ (i + 1) by rw [← Nat.pow_add]; congr 1; omega]
    exact Nat.mul_le_mul_right _ h1
  omega
def nl (v : Nat) : Nat := if v = 0 then 0 else v.log2 / 32 + 1
theorem B_pow_two (i : Nat) : B ^ i = 2 ^ (32 * i) := by
  rw [Nat.pow_mul]; rfl
theorem lt_nl (v : Nat) : v < B ^ nl v := by
  unfold nl
  split
  · subst_vars; simp
  · rename_i h
    rw [B_pow_two]
    refine Nat.lt_of_lt_of_le Nat.lt_log2_self (Nat.pow_le_pow_right (by omega) (by omega))
theorem nl_le {v n : Nat} (h : v < B ^ n) : nl v ≤ n := by
  unfold nl
  split
  · omega
  · rename_i hv
    rw [B_pow_two] at h
    have := (Nat.log2_lt hv).2 h
    omega
theorem le_of_nl {v : Nat} (hv : v ≠ 0) : B ^ (nl v - 1) ≤ v := by
  rcases Nat.lt_or_ge v (B ^ (nl v - 1)) with h | h
  · have := nl_le h
    have h0 : nl v ≠ 0 := by unfold nl; simp [hv]
    omega
  · exact h
theorem nl_zero : nl 0 = 0 := rfl
theorem nl_pos {v : Nat} (hv : v ≠ 0) : 0 < nl v := by unfold nl; simp [hv]
theorem nl_eq_zero {v : Nat} : nl v = 0 ↔ v = 0 := by
  constructor
  · intro h; rcases Nat.eq_zero_or_pos v with h' | h'
    · exact h'
    · have := nl_pos (v := v) (by omega); omega
  · rintro rfl; rfl
theorem nl_mono {u v : Nat} (h : u ≤ v) : nl u ≤ nl v := nl_le (Nat.lt_of_le_of_lt h (lt_nl v))
theorem nl_eq {v n : Nat} (h1 : v < B ^ (n + 1)) (h2 : B ^ n ≤ v) : nl v = n + 1 := by
  have := nl_le h1
  rcases Nat.lt_or_ge (nl v) (n + 1) with h | h
  · have h3 := lt_nl v
    have := Nat.pow_le_pow_right B_pos (show nl v ≤ n by omega)
    omega
  · omega
theorem dig_top {v : Nat} (hv : v ≠ 0) : dig v (nl v - 1) ≠ 0 := by
  have h1 := le_of_nl hv
  have h2 := lt_nl v
  have h3 := nl_pos hv
  unfold dig
  rw [Nat.mod_eq_of_lt]
  · exact Nat.ne_of_gt (Nat.div_pos h1 (B_pow_pos _))
  · rw [Nat.div_lt_iff_lt_mul (B_pow_pos _), ← Nat.pow_succ', show (nl v - 1).succ = nl v by omega]; exact h2
theorem nl_mul_le (u v : Nat) : nl (u * v) ≤ nl u + nl v := by
  apply nl_le
  rw [Nat.pow_add]
  rcases Nat.eq_zero_or_pos v with h | h
  · subst h; simp; exact Nat.mul_pos (B_pow_pos _) (B_pow_pos _)
  · exact Nat.mul_lt_mul'' (lt_nl u) (lt_nl v)
theorem nl_add_le (u v : Nat) : nl (u + v) ≤ max (nl u) (nl v) + 1 := by
  apply nl_le
  have h1 := Nat.lt_of_lt_of_le (lt_nl u) (Nat.pow_le_pow_right B_pos (Nat.le_max_left (nl u) (nl v)))
  have h2 := Nat.lt_of_lt_of_le (lt_nl v) (Nat.pow_le_pow_right B_pos (Nat.le_max_right (nl u) (nl v)))
  rw [Nat.pow_succ]
  have := Nat.mul_le_mul_left (B ^ max (nl u) (nl v)) B_two
  omega
theorem add_step {X X' Y i c : Nat} (h : X' + c * B ^ i = X + Y % B ^ i) :
    put X' i ((dig X' i + dig Y i + c) % B) + (dig X' i + dig Y i + c) / B * B ^ (i + 1) = X + Y % B ^ (i + 1) := by
  have h1 := put_add X' i ((dig X' i + dig Y i + c) % B)
  have h2 := mod_succ Y i
  have h3 := Nat.mod_add_div (dig X' i + dig Y i + c) B
  generalize (dig X' i + dig Y i + c) % B = r at *
  generalize (dig X' i + dig Y i + c) / B = q at *
  have h4 : (r + B * q) * B ^ i = (dig X' i + dig Y i + c) * B ^ i := by rw [h3]
  have h5 : q * B ^ (i + 1) = B * q * B ^ i := by rw [Nat.pow_succ, Nat.mul_comm (B ^ i) B, ← Nat.mul_assoc, Nat.mul_comm q B]
  simp only [Nat.add_mul] at h4
  omega
theorem sub_step {X X' Y i c s q : Nat} (h : X' + Y % B ^ i = X + c * B ^ i) (hs : s + dig Y i + c = dig X' i + q * B) :
    put X' i s + Y % B ^ (i + 1) = X + q * B ^ (i + 1) := by
  have h1 := put_add X' i s
  have h2 := mod_succ Y i
  have h4 : (s + dig Y i + c) * B ^ i = (dig X' i + q * B) * B ^ i := by rw [hs]
  have h5 : q * B ^ (i + 1) = q * B * B ^ i := by rw [Nat.pow_succ, Nat.mul_comm (B ^ i) B, ← Nat.mul_assoc]
  simp only [Nat.add_mul] at h4
  omega
theorem addmul_step {X X' Y f i c : Nat} (h : X' + c * B ^ i = X + Y % B ^ i * f) :
    put X' i ((dig X' i + dig Y i * f + c) % B) + (dig X' i + dig Y i * f + c) / B * B ^ (i + 1) = X + Y % B ^ (i + 1) * f := by
  have h1 := put_add X' i ((dig X' i + dig Y i * f + c) % B)
  have h2 := mod_succ Y i
  have h3 := Nat.mod_add_div (dig X' i + dig Y i * f + c) B
  generalize (dig X' i + dig Y i * f + c) % B = r at *
  generalize (dig X' i + dig Y i * f + c) / B = q at *
  have h4 : (r + B * q) * B ^ i = (dig X' i + dig Y i * f + c) * B ^ i := by rw [h3]
  have h5 : q * B ^ (i + 1) = B * q * B ^ i := by rw [Nat.pow_succ, Nat.mul_comm (B ^ i) B, ← Nat.mul_assoc, Nat.mul_comm q B]
  have h6 : Y % B ^ (i + 1) * f = Y % B ^ i * f + dig Y i * f * B ^ i := by rw [h2, Nat.add_mul, Nat.mul_right_comm]
  simp only [Nat.add_mul] at h4
  omega
theorem submul_step {X X' Y f i c s q : Nat} (h : X' + Y % B ^ i * f = X + c * B ^ i) (hs : s + dig Y i * f + c = dig X' i + q * B) :
    put X' i s + Y % B ^ (i + 1) * f = X + q * B ^ (i + 1) := by
  have h1 := put_add X' i s
  have h2 := mod_succ Y i
  have h4 : (s + dig Y i * f + c) * B ^ i = (dig X' i + q * B) * B ^ i := by rw [hs]
  have h5 : q * B ^ (i + 1) = q * B * B ^ i := by rw [Nat.pow_succ, Nat.mul_comm (B ^ i) B, ← Nat.mul_assoc]
  have h6 : Y % B ^ (i + 1) * f = Y % B ^ i * f + dig Y i * f * B ^ i := by rw [h2, Nat.add_mul, Nat.mul_right_comm]
  simp only [Nat.add_mul] at h4
  omega
theorem addmul_carry {x y f c : Nat} (hx : x < B) (hy : y < B) (hf : f < B) (hc : c < B) : (x + y * f + c) / B < B := by
  have h1 : y * f ≤ (B - 1) * (B - 1) := Nat.mul_le_mul (by omega) (by omega)
  rw [Nat.div_lt_iff_lt_mul B_pos]
  unfold B at *
  omega
theorem add_step0 {X X' i c : Nat} (h : X' + c * B ^ i = X) :
    put X' i ((dig X' i + c) % B) + (dig X' i + c) / B * B ^ (i + 1) = X := by
  have h1 := put_add X' i ((dig X' i + c) % B)
  have h3 := Nat.mod_add_div (dig X' i + c) B
  generalize (dig X' i + c) % B = r at *
  generalize (dig X' i + c) / B = q at *
  have h4 : (r + B * q) * B ^ i = (dig X' i + c) * B ^ i := by rw [h3]
  have h5 : q * B ^ (i + 1) = B * q * B ^ i := by rw [Nat.pow_succ, Nat.mul_comm (B ^ i) B, ← Nat.mul_assoc, Nat.mul_comm q B]
  simp only [Nat.add_mul] at h4
  omega
theorem sub_step0' {X X' Y i c s q : Nat} (h : X' + Y = X + c * B ^ i) (hs : s + c = dig X' i + q * B) :
    put X' i s + Y = X + q * B ^ (i + 1) := by
  have h1 := put_add X' i s
  have h4 : (s + c) * B ^ i = (dig X' i + q * B) * B ^ i := by rw [hs]
  have h5 : q * B ^ (i + 1) = q * B * B ^ i := by rw [Nat.pow_succ, Nat.mul_comm (B ^ i) B, ← Nat.mul_assoc]
  simp only [Nat.add_mul] at h4
  omega
theorem dig_shift (v i j : Nat) : dig (v / B ^ i) j = dig v (i + j) := by
  rw [dig_of_div (v := v) (i := i) (j := i + j) (by omega)]; congr 1; omega
theorem dig_mul_pow_low {v n j : Nat} (h : j < n) : dig (v * B ^ n) j = 0 := by
  rw [← dig_of_mod h, Nat.mul_mod_left, dig_zero]
theorem dig_add_low {l h n j : Nat} (hl : l < B ^ n) (hj : j < n) : dig (l + h * B ^ n) j = dig l j := by
  rw [← dig_of_mod hj, Nat.add_mul_mod_self_right, Nat.mod_eq_of_lt hl]
theorem dig_add_high {l h n j : Nat} (hl : l < B ^ n) : dig (l + h * B ^ n) (n + j) = dig h j := by
  rw [← dig_shift, Nat.add_mul_div_right _ _ (B_pow_pos n), Nat.div_eq_of_lt hl, Nat.zero_add]
theorem div_succ (x j : Nat) : x / B ^ j = x / B ^ (j + 1) * B + dig x j := by
  unfold dig
  rw [Nat.pow_succ, ← Nat.div_div_eq_div_mul]
  have := Nat.mod_add_div (x / B ^ j) B
  rw [Nat.mul_comm] at this
  omega
theorem lt_of_dig {x y j : Nat} (h : x / B ^ (j + 1) = y / B ^ (j + 1)) (hd : dig x j < dig y j) : x < y := by
  have h1 := div_succ x j
  have h2 := div_succ y j
  rcases Nat.lt_or_ge x y with h3 | h3
  · exact h3
  · have := Nat.div_le_div_right (c := B ^ j) h3
    rw [h] at h1
    omega
theorem lt_of_nl {x y : Nat} (h : nl x < nl y) : x < y := by
  rcases Nat.lt_or_ge x y with h3 | h3
  · exact h3
  · have := nl_mono h3; omega
theorem put_mod_dig (y j : Nat) : put (y % B ^ j) j (dig y j) = y % B ^ (j + 1) := by
  have h := put_add (y % B ^ j) j (dig y j)
  rw [dig_big (Nat.mod_lt _ (B_pow_pos j)), Nat.zero_mul, Nat.add_zero] at h
  rw [h, mod_succ]
theorem addmul_words {x y f c hi lo l1 c1 x2 c2 : Nat} (hx : x < B) (hy : y < B) (hf : f < B) (hc : c < B)
    (h1 : y * f / B = hi) (h2 : y * f % B = lo) (h3 : (lo + c) % B = l1) (h4 : (lo + c) / B = c1) (h5 : (x + l1) % B = x2) (h6 : (x + l1) / B = c2) :
    x2 = (x + y * f + c) % B ∧ hi + c1 + c2 = (x + y * f + c) / B ∧ hi + c1 ≤ 4294967295 ∧ hi + c1 + c2 ≤ 4294967295 ∧ c2 ≤ 1 := by
  have h7 := Nat.mod_add_div (y * f) B
  have h8 := Nat.mod_add_div (lo + c) B
  have h9 := Nat.mod_add_div (x + l1) B
  rw [h1, h2] at h7
  rw [h3, h4] at h8
  rw [h5, h6] at h9
  have hx2 : x2 < B := by rw [← h5]; exact Nat.mod_lt _ B_pos
  have hl1 : l1 < B := by rw [← h3]; exact Nat.mod_lt _ B_pos
  have hk := addmul_carry hx hy hf hc
  have e : x + y * f + c = x2 + (hi + c1 + c2) * B := by
    rw [← h7]
    have : (hi + c1 + c2) * B = B * hi + B * c1 + B * c2 := by rw [Nat.mul_comm, Nat.mul_add, Nat.mul_add]
    omega
  have e1 : (x + y * f + c) % B = x2 := by rw [e, Nat.add_mul_mod_self_right, Nat.mod_eq_of_lt hx2]
  have e2 : (x + y * f + c) / B = hi + c1 + c2 := by rw [e, Nat.add_mul_div_right _ _ B_pos, Nat.div_eq_of_lt hx2, Nat.zero_add]
  rw [e2] at hk
  have hc2 : c2 ≤ 1 := by rw [← h6]; unfold B at *; omega
  refine ⟨e1.symm, e2.symm, ?_, ?_, hc2⟩ <;> (unfold B at hk; omega)
theorem submul_words {x y f c hi lo l1 c1 x2 c2 : Nat} (hy : y < B) (hf : f < B) (hc : c < B)
    (h1 : y * f / B = hi) (h2 : y * f % B = lo) (h3 : (lo + c) % B = l1) (h4 : (lo + c) / B = c1) (h5 : x2 + l1 = x + c2 * B) (hx2 : x2 < B) :
    x2 + y * f + c = x + (hi + c1 + c2) * B ∧ hi + c1 ≤ 4294967295 ∧ hi + c1 + c2 ≤ 4294967295 := by
  have h7 := Nat.mod_add_div (y * f) B
  have h8 := Nat.mod_add_div (lo + c) B
  rw [h1, h2] at h7
  rw [h3, h4] at h8
  have hk := addmul_carry hx2 hy hf hc
  have e : x2 + y * f + c = x + (hi + c1 + c2) * B := by
    rw [← h7]
    have : (hi + c1 + c2) * B = B * hi + B * c1 + c2 * B := by rw [Nat.add_mul, Nat.add_mul, Nat.mul_comm hi, Nat.mul_comm c1]
    omega
  have e2 : hi + c1 + c2 ≤ (x2 + y * f + c) / B := by
    rw [e, Nat.add_mul_div_right _ _ B_pos]; exact Nat.le_add_left _ _
  refine ⟨e, ?_, ?_⟩ <;> (unfold B at hk e2; omega)
end D3
namespace R3
open Go.RowKit Go.Sort D3
abbrev dw (n : Nat) : Value := .int .u32 (n : Int)
def digs (n v : Nat) : Array Nat := Array.ofFn (fun i : Fin n => dig v i)
@[simp] theorem digs_size (n v : Nat) : (digs n v).size = n := by simp [digs]
theorem digs_get {n v i : Nat} (h : i < n) : (digs n v)[i]! = dig v i := by
  rw [getElem!_pos _ i (by simpa using h)]; simp [digs]
theorem digs_set {n v i d : Nat} (hd : d < B) : (digs n v).setIfInBounds i d = digs n (put v i d) := by
  apply Array.ext
  · simp
  · intro j h1 h2
    simp at h1
    rw [Array.getElem_setIfInBounds (by simpa using h1)]
    simp only [digs, Array.getElem_ofFn]
    split
    · subst_vars; exact (dig_put_same hd).symm
    · rename_i h; exact (dig_put_other hd (Ne.symm h)).symm
def rowW (w : World) (b off n v : Nat) : World := putRow dw w b off (digs n v)
def Row (w : World) (b off n v : Nat) : Prop := Holds dw w b off (digs n v)
theorem Row.self {w : World} {b off n v : Nat} (h : Row w b off n v) : rowW w b off n v = w := putRow_self _ _ _ _ _ h
theorem Row.cell {w : World} {b off n v u i : Nat} (h : Row w b off n v) (hi : i < n) : (rowW w b off n u).cell? ⟨b, off + i, none⟩ = some (dw (dig u i)) := by
  have := cell?_putRow dw w b off (digs n v) (digs n u) h (by simp) i (by simpa using hi)
  rw [digs_get hi] at this; exact this
theorem Row.free {w : World} {b off n v u i : Nat} (h : Row w b off n v) (hi : i < n) : (rowW w b off n u).frozen? ⟨b, off + i, none⟩ = false := by
  unfold rowW; rw [frozen?_putRow]; exact (h i (by simpa using hi)).2
theorem rowW_set {w : World} {b off n v i d : Nat} (hi : i < n) (hd : d < B) : (rowW w b off n v).setCell ⟨b, off + i, none⟩ (dw d) = rowW w b off n (put v i d) := by
  unfold rowW; rw [← digs_set hd]; exact putRow_set dw w b off (digs n v) i d (by simpa using hi)
theorem rowW_other {w : World} {b off n v : Nat} {a : Addr} (h : a.block ≠ b ∨ a.off < off ∨ off + n ≤ a.off) : (rowW w b off n v).cell? a = w.cell? a :=
  cell?_putRow_other dw w b off (digs n v) a (by simpa using h)
@[simp] theorem rowW_size (w : World) (b off n v : Nat) : (rowW w b off n v).heap.size = w.heap.size := by simp [rowW]
structure DigsAt (w : World) (a : Option Addr) (m cap Y : Nat) : Prop where
  lt : Y < B ^ m
  fit : m ≤ cap
  cells : m ≠ 0 → ∃ b off, a = some ⟨b, off, none⟩ ∧ b < w.heap.size ∧ ∀ i, i < m → w.cell? ⟨b, off + i, none⟩ = some (dw (dig Y i))
theorem DigsAt.mono {w w' : World} {a : Option Addr} {m cap Y : Nat} (h : DigsAt w a m cap Y) (hb : Below w.heap.size w w') : DigsAt w' a m cap Y :=
  ⟨h.lt, h.fit, fun hm => by
    obtain ⟨b, off, e, hlt, hc⟩ := h.cells hm
    exact ⟨b, off, e, Nat.lt_of_lt_of_le hlt hb.size, fun i hi => (hb.cell (by exact hlt)).trans (hc i hi)⟩⟩
theorem DigsAt.zero (w : World) (a : Option Addr) (cap : Nat) : DigsAt w a 0 cap 0 := ⟨by simp, Nat.zero_le _, fun h => absurd rfl h⟩
theorem DigsAt.shrink {w : World} {a : Option Addr} {m cap Y : Nat} (h : DigsAt w a m cap Y) : DigsAt w a (nl Y) cap Y :=
  ⟨lt_nl Y, Nat.le_trans (nl_le h.lt) h.fit, fun hm => by
    have h1 := nl_le h.lt
    obtain ⟨b, off, e, hlt, hc⟩ := h.cells (by omega)
    exact ⟨b, off, e, hlt, fun i hi => hc i (by omega)⟩⟩
theorem Row.digs {w : World} {b off n v : Nat} (h : Row w b off n v) {cap : Nat} (hv : v < B ^ n) (hb : b < w.heap.size) (hc : n ≤ cap) : DigsAt w (some ⟨b, off, none⟩) n cap v :=
  ⟨hv, hc, fun _ => ⟨b, off, rfl, hb, fun i hi => by have := (h i (by simpa using hi)).1; rw [digs_get hi] at this; exact this⟩⟩
def Gives (w : World) (r : Nat) (e : Ending) (w' : World) : Prop :=
  ∃ a cap, e = .returned (.slice a (nl r) cap) ∧ DigsAt w' a (nl r) cap r ∧ Below w.heap.size w w' ∧ ∀ p, a = some p → w.heap.size ≤ p.block
theorem DigsAt.drawn {w : World} {a : Option Addr} {m cap Y : Nat} (h : DigsAt w a m cap Y) (q : Nat) : DigsAt (w.drewN q) a m cap Y := ⟨h.lt, h.fit, h.cells⟩
def mk (w : World) (n : Nat) : World := w.alloc (.cells (digs n 0 |>.map dw) 141)
theorem mk_size (w : World) (n : Nat) : (mk w n).heap.size = w.heap.size + 1 := by simp [mk]
theorem mk_below (w : World) (n : Nat) : Below w.heap.size w (mk w n) := (Below.refl _ _).alloc (Nat.le_refl _) _
theorem mk_row (w : World) (n : Nat) : Row (mk w n) w.heap.size 0 n 0 := by
  intro j hj
  have hj' : j < n := by simpa using hj
  rw [digs_get hj']
  unfold mk
  constructor
  · rw [Nat.zero_add, World.cell?_alloc_new]; simp [digs, hj']
  · exact World.frozen?_alloc_new ..
theorem info_u32 : (Tryz.prog.info? 141).map (fun i => (i.zero, i.size, i.bytes)) = some (some (.int .u32 0), 1, 4) := by kernel_rfl
theorem mk_run (c : Int) (n : Nat) (hc : c = n) (hn : n ≤ 1099511627776) (w : World) :
    (Instr.makeSlice 33 (.int .i64 c) (.int .i64 c)).run Tryz.prog w = .ok (.slice (some ⟨w.heap.size, 0, none⟩) n n) (mk w n) := by
  subst hc
  obtain ⟨i0, hi, hz0, hz1, hz2⟩ := info_parts info_u32
  have h := run_make (P := Tryz.prog) w 33 141 i0 (.int .u32 0) Tryz.underlying33 hi hz0 .i64 .i64 n n (by omega) (by omega) (by rw [hz2]; omega) (by omega)
  have e : madeCells (Value.int IntKind.u32 0).cells n = (digs n 0).map dw := by
    apply Array.ext
    · simp [size_madeCells]
    · intro j h1 h2
      simp [madeCells, Value.cells, digs, dig_zero, Nat.mod_one]
  rw [Int.toNat_natCast, hz1, Nat.mul_one, e] at h
  exact h
theorem rowW_below {B : Nat} {a w : World} (h : Below B a w) {b off n v : Nat} (hb : B ≤ b) : Below B a (rowW w b off n v) :=
  ⟨h.os, h.tape, h.output, by rw [rowW_size]; exact h.size, fun k hk => by
    rw [← h.block k hk]
    unfold rowW putRow mapBlock
    simp only [Array.getElem?_modify]
    rw [if_neg (by omega)]⟩
theorem Row.set {w : World} {b off n v i d u : Nat} (h : Row w b off n v) (hi : i < n) (hd : d < B) (hu : put v i d = u) :
    w.setCell ⟨b, off + i, none⟩ (dw d) = rowW w b off n u ∧ Row (rowW w b off n u) b off n u := by
  constructor
  · have := rowW_set (w := w) (b := b) (off := off) (v := v) hi hd
    rw [h.self] at this; rw [this, hu]
  · exact holds_putRow _ _ _ _ _ _ h (by simp)
theorem Row.row {w : World} {b off n v : Nat} (u : Nat) (h : Row w b off n v) : Row (rowW w b off n u) b off n u := holds_putRow _ _ _ _ _ _ h (by simp)
theorem put_zero (i d : Nat) : put 0 i d = d * B ^ i := by simp [put, dig_zero]
end R3
end Go.Proofs.YtafckcmieepmaaaGreatDoor
namespace Go.Proofs.YtafckcmieepmaaaGreatDoor
namespace R3
open Go.RowKit Go.Sort D3
theorem cut_any (b off m cap Y : Nat) (w : World) (h : DigsAt w (some ⟨b, off, none⟩) m cap Y) (hm : m ≤ 1152921504606846976) :
    Calls Tryz.prog 79 #[.slice (some ⟨b, off, none⟩) m cap] w fun e w' => e = .returned (.slice (some ⟨b, off, none⟩) (nl Y) cap) ∧ w = w' := by
  have hfit := h.fit
  go_enter Tryz.func79, Tryz.ntmps79
  go_wp2
  go_loop [3] (fun s => ∃ k : Nat, k ≤ m ∧ nl Y ≤ k ∧ s = .int .i64 k) (fun s => (intOf s).toNat)
  case atStart => exact ⟨m, Nat.le_refl _, nl_le h.lt, rfl⟩
  case round =>
    obtain ⟨k, hk, hl, rfl⟩ := hrel
    by_cases hk0 : k = 0
    · have hY : nl Y = 0 := by omega
      subst hk0
      rw [hY]
      go_wp2
      go_ret
      exact ⟨rfl, rfl⟩
    · obtain ⟨b', off', e, hb, hc⟩ := h.cells (by omega)
      cases e
      have hk1 : 0 < k := by omega
      have hkp : decide ((0 : Int) < (k : Int)) = true := by simp; omega
      have hc1 : w.cell? ⟨b, off + (k - 1), none⟩ = some (dw (dig Y (k - 1))) := hc (k - 1) (by omega)
      have e1 : ((k : Int) - 1).toNat = k - 1 := by omega
      clear hc
      by_cases hd : dig Y (k - 1) = 0
      · have hlt : nl Y ≤ k - 1 := by
          rcases Nat.lt_or_ge (k - 1) (nl Y) with h1 | h1
          · by_cases hy : Y = 0
            · subst hy; simp [nl_zero] at h1
            · exact absurd hd (by rw [show k - 1 = nl Y - 1 by omega]; exact dig_top hy)
          · exact h1
        have hc2 : w.cell? ⟨b, off + (k - 1), none⟩ = some (.int .u32 0) := by rw [hc1, hd]; rfl
        clear hc1 hd hk0
        go_wp2
        go_round
        case rel => exact ⟨k - 1, by omega, by omega, by go_num⟩
        case measure => simp [intOf]; omega
      · have hd1 : (((dig Y (k - 1) : Nat) : Int) == 0) = false := by rw [beq_eq_false_iff_ne]; omega
        have hlt : nl Y = k := by
          rcases Nat.lt_or_ge (k - 1) (nl Y) with h1 | h1
          · omega
          · exact absurd (dig_big (Nat.lt_of_lt_of_le (lt_nl Y) (Nat.pow_le_pow_right B_pos h1))) hd
        have Hl := Lib.hid hlt
        clear hlt hd hk0
        go_wp2
        go_ret
        exact ⟨by rw [Hl.out]; rfl, rfl⟩
theorem order_any (a b : Option Addr) (ca cb x y : Nat) (w : World) (hx : DigsAt w a (nl x) ca x) (hy : DigsAt w b (nl y) cb y) (hm : nl x ≤ 1152921504606846976) :
    Calls Tryz.prog 77 #[.slice a (nl x) ca, .slice b (nl y) cb] w fun e w' => e = .returned (.int .i64 (cmpN x y)) ∧ ∃ q, w.drewN q = w' := by
  by_cases hn : nl x = nl y
  · have ht : (((nl x : Nat) : Int) != (nl x : Nat)) = false := by simp
    have hxl := lt_nl x
    have hyl := lt_nl y
    rw [← hn] at hy hyl ⊢
    clear hn
    generalize nl x = k at *
    go_enter Tryz.func77, Tryz.ntmps77
    go_wp2
    go_loopw [5] (fun i wr => ∃ j q : Nat, j ≤ k ∧ i = .int .i64 ((j : Int) - 1) ∧ Hid (x / B ^ j = y / B ^ j) ∧ wr = w.drewN q) (fun i _ => (intOf i + 1).toNat)
    case atStart => exact ⟨k, 0, Nat.le_refl _, by go_num, by unfold Hid; rw [Nat.div_eq_of_lt hxl, Nat.div_eq_of_lt hyl], rfl⟩
    case round =>
      obtain ⟨j, q, hj, rfl, hv, rfl⟩ := hrel
      by_cases hj0 : j = 0
      · subst hj0
        go_wp2
        go_ret
        exact ⟨ret_int (cmpN_eq (by simpa using hv.out)).symm, q, rfl⟩
      · obtain ⟨b1, o1, rfl, hb1, hc1⟩ := hx.cells (by omega)
        obtain ⟨b2, o2, rfl, hb2, hc2⟩ := hy.cells (by omega)
        have g1 := hc1 (j - 1) (by omega)
        have g2 := hc2 (j - 1) (by omega)
        have e1 : ((j : Int) - 1).toNat = j - 1 := by omega
        have hj1 : (0 : Int) ≤ (j : Int) - 1 := by omega
        have hj2 : (j : Int) - 1 < (k : Int) := by omega
        have hs := div_succ x (j - 1)
        have hs' := div_succ y (j - 1)
        rw [show j - 1 + 1 = j by omega] at hs hs'
        have hlt1 : dig x (j - 1) < dig y (j - 1) → x < y := lt_of_dig (by rw [show j - 1 + 1 = j by omega]; exact hv.out)
        have hlt2 : dig y (j - 1) < dig x (j - 1) → y < x := lt_of_dig (by rw [show j - 1 + 1 = j by omega]; exact hv.out.symm)
        have hvn : dig x (j - 1) = dig y (j - 1) → x / B ^ (j - 1) = y / B ^ (j - 1) := fun h => by rw [hs, hs', h, hv.out]
        have H1 := Lib.hid hlt1
        have H2 := Lib.hid hlt2
        have H3 := Lib.hid hvn
        clear hc1 hc2 hs hs' hlt1 hlt2 hvn hv hj0
        obtain ⟨dx, hdx⟩ : ∃ d, dig x (j - 1) = d := ⟨_, rfl⟩
        obtain ⟨dy, hdy⟩ : ∃ d, dig y (j - 1) = d := ⟨_, rfl⟩
        rw [hdx] at g1 H1 H2 H3
        rw [hdy] at g2 H1 H2 H3
        clear hdx hdy
        rcases Nat.lt_trichotomy dx dy with hd | hd | hd
        · have tt : decide ((dx : Int) < (dy : Int)) = true := by simp; omega
          have HC := Lib.hid (cmpN_lt (H1.out hd))
          clear H1 H2 H3
          go_wp2
          go_quiet (fail)
          go_wp2
          go_ret
          exact ⟨ret_int HC.out.symm, _, (World.drewN_drewN ..).symm⟩
        · have hv := H3.out hd
          subst hd
          have tt : decide ((dx : Int) < (dx : Int)) = false := by simp
          clear H1 H2 H3
          have HV := Lib.hid hv
          clear hv
          go_wp2
          go_quiet (fail)
          go_wp2
          rw [World.drewN_drewN]
          go_quiet (fail)
          go_wp2
          go_roundw
          case rel => exact ⟨j - 1, _, by omega, by go_num, HV, rfl⟩
          case measure => simp [intOf]; omega
        · have tt : decide ((dx : Int) < (dy : Int)) = false := by simp; omega
          have t2 : decide ((dy : Int) < (dx : Int)) = true := by simp; omega
          have HC := Lib.hid (cmpN_gt (H2.out hd))
          clear H1 H2 H3
          go_wp2
          go_quiet (fail)
          go_wp2
          rw [World.drewN_drewN]
          go_quiet (fail)
          go_wp2
          go_ret
          exact ⟨ret_int HC.out.symm, _, (World.drewN_drewN ..).symm⟩
  · have ht : (((nl x : Nat) : Int) != (nl y : Nat)) = true := by rw [bne_iff_ne]; omega
    rcases Nat.lt_or_gt_of_ne hn with h | h
    · have hc := cmpN_lt (lt_of_nl h)
      have tt : decide (((nl x : Nat) : Int) < (nl y : Nat)) = true := by simp; omega
      rw [hc]
      clear hx hy hc hn hm
      generalize nl x = k at *
      generalize nl y = l at *
      go_enter Tryz.func77, Tryz.ntmps77
      go_wp2
      go_ret
      exact ⟨rfl, 0, rfl⟩
    · have hc := cmpN_gt (lt_of_nl h)
      have tt : decide (((nl x : Nat) : Int) < (nl y : Nat)) = false := by simp; omega
      rw [hc]
      clear hx hy hc hn hm
      generalize nl x = k at *
      generalize nl y = l at *
      go_enter Tryz.func77, Tryz.ntmps77
      go_wp2
      go_ret
      exact ⟨rfl, 0, rfl⟩
theorem two_digits (w : World) (n : Nat) (h : n < 18446744073709551616) : DigsAt (w.alloc (.cells #[dw (n % 4294967296), dw (n / 4294967296)] 141)) (some ⟨w.heap.size, 0, none⟩) 2 2 n := by
  have hB : B = 4294967296 := rfl
  refine ⟨by rw [Nat.pow_succ, Nat.pow_one]; unfold B; omega, Nat.le_refl _, fun _ => ⟨w.heap.size, 0, rfl, by simp, fun i hi => ?_⟩⟩
  rcases (by omega : i = 0 ∨ i = 1) with rfl | rfl
  · rw [show dig n 0 = n % 4294967296 from by rw [dig_one]; rfl]
    rw [Nat.zero_add, World.cell?_alloc_new]; simp
  · rw [show dig n 1 = n / 4294967296 from by unfold dig; rw [Nat.pow_one, hB]; exact Nat.mod_eq_of_lt (by omega)]
    rw [Nat.zero_add, World.cell?_alloc_new]; simp
theorem nat_any (n : Nat) (hn : n < 18446744073709551616) (w : World) : Calls Tryz.prog 46 #[.int .u64 (n : Nat)] w (Gives w n) := by
  have HD := two_digits w n hn
  have HC := Lib.hid (cut_any w.heap.size 0 2 2 n _ HD (by omega))
  have HB := Lib.hid ((Below.refl w.heap.size w).alloc (Nat.le_refl _) (.cells #[dw (n % 4294967296), dw (n / 4294967296)] 141))
  have k0 : ((4294967296 : Int) == 0) = false := rfl
  have k1 : IntKind.u32.wrap ((n : Int) % 4294967296) = ((n % 4294967296 : Nat) : Int) := by
    simp only [IntKind.wrap, IntKind.bits, IntKind.signed]; simp
  have k2 : IntKind.u32.wrap (IntKind.u64.wrap ((n : Int) / 4294967296)) = ((n / 4294967296 : Nat) : Int) := by
    simp only [IntKind.wrap, IntKind.bits, IntKind.signed]; simp; omega
  go_enter Tryz.func46, Tryz.ntmps46
  go_wp2_with fail
  refine HC.out.mono ?_
  rintro e w' ⟨rfl, rfl⟩
  go_wp2
  go_ret
  exact ⟨_, _, rfl, HD.shrink, HB.out, by rintro _ ⟨⟩; exact Nat.le_refl _⟩
end R3
end Go.Proofs.YtafckcmieepmaaaGreatDoor
namespace Go.Proofs.YtafckcmieepmaaaGreatDoor
namespace R3
open Go.RowKit Go.Sort D3
theorem put_low {V i d : Nat} (h : V < B ^ i) : put V i d = V + d * B ^ i := by
  have := put_add V i d
  rw [dig_big h, Nat.zero_mul] at this
  exact this
theorem low_next {V i d : Nat} (h : V < B ^ i) (hd : d < B) : V + d * B ^ i < B ^ (i + 1) := by
  have h3 : d * B ^ i + B ^ i ≤ B ^ (i + 1) := by
    rw [Nat.pow_succ, Nat.mul_comm (B ^ i) B, ← Nat.succ_mul]; exact Nat.mul_le_mul_right _ hd
  omega
theorem sum_step {x y V c i S : Nat} (h : V + c * B ^ i = x % B ^ i + y % B ^ i) (hS : S = c + dig x i + dig y i) :
    V + (S % B) * B ^ i + S / B * B ^ (i + 1) = x % B ^ (i + 1) + y % B ^ (i + 1) := by
  have h1 := mod_succ x i
  have h2 := mod_succ y i
  have h3 := Nat.mod_add_div S B
  generalize S % B = r at *
  generalize S / B = q at *
  have h4 : (r + B * q) * B ^ i = (c + dig x i + dig y i) * B ^ i := by rw [h3, hS]
  have h5 : q * B ^ (i + 1) = B * q * B ^ i := by rw [Nat.pow_succ, Nat.mul_comm (B ^ i) B, ← Nat.mul_assoc, Nat.mul_comm q B]
  simp only [Nat.add_mul] at h4
  omega
theorem wrap32 (n : Nat) : IntKind.u32.wrap ((n : Int) % 4294967296) = ((n % B : Nat) : Int) := by
  simp only [IntKind.wrap, IntKind.bits, IntKind.signed]; unfold B; simp
theorem wrap64s {n : Nat} (h : n < 18446744073709551616) : IntKind.u64.wrap (n : Int) = (n : Int) := by
  simp only [IntKind.wrap, IntKind.bits, IntKind.signed]; simp; omega
theorem rowW_rowW (w : World) (b off n u v : Nat) : rowW (rowW w b off n u) b off n v = rowW w b off n v := putRow_putRow _ _ _ _ _ _ (by simp)
set_option maxHeartbeats 4000000 in
theorem sum_any (a b : Option Addr) (ca cb x y : Nat) (w : World) (hx : DigsAt w a (nl x) ca x) (hy : DigsAt w b (nl y) cb y) (hnx : nl x ≤ 1073741824) (hny : nl y ≤ 1073741824) :
    Calls Tryz.prog 88 #[.slice a (nl x) ca, .slice b (nl y) cb] w (Gives w (x + y)) := by
  obtain ⟨n, hn⟩ : ∃ n, n = max (nl x) (nl y) + 1 := ⟨_, rfl⟩
  have hmk := fun w => mk_run (max (nl x : Int) (nl y : Int) + 1) n (by omega) (by omega) w
  have hr := mk_row w n
  have hB := mk_below w n
  have hs : (mk w n).heap.size = w.heap.size + 1 := mk_size w n
  have hlx : x < B ^ n := Nat.lt_of_lt_of_le (lt_nl x) (Nat.pow_le_pow_right B_pos (by omega))
  have hly : y < B ^ n := Nat.lt_of_lt_of_le (lt_nl y) (Nat.pow_le_pow_right B_pos (by omega))
  have hsum : x + y < B ^ n := Nat.lt_of_lt_of_le (lt_nl (x + y)) (Nat.pow_le_pow_right B_pos (by have := nl_add_le x y; omega))
  have hzx : ∀ i, nl x ≤ i → dig x i = 0 := fun i h => dig_big (Nat.lt_of_lt_of_le (lt_nl x) (Nat.pow_le_pow_right B_pos h))
  have hzy : ∀ i, nl y ≤ i → dig y i = 0 := fun i h => dig_big (Nat.lt_of_lt_of_le (lt_nl y) (Nat.pow_le_pow_right B_pos h))
  have hnn : n ≤ 1073741825 := by omega
  have HN := Lib.hid hn
  clear hn
  generalize hkx : nl x = kx at *
  generalize hky : nl y = ky at *
  go_enter Tryz.func88, Tryz.ntmps88
  go_wp2
  go_loopw [6, 7] (fun c i wr => ∃ k cn V : Nat, k ≤ n ∧ i = .int .i64 k ∧ c = .int .u64 (cn : Nat) ∧ cn ≤ 1 ∧ V < B ^ k ∧ Hid (V + cn * B ^ k = x % B ^ k + y % B ^ k) ∧ wr = rowW (mk w n) w.heap.size 0 n V) (fun _ i _ => n - (intOf i).toNat)
  case atStart => exact ⟨0, 0, 0, Nat.zero_le _, rfl, rfl, by omega, by simp, by simp [Hid, Nat.mod_one], hr.self.symm⟩
  case round =>
    obtain ⟨k, cn, V, hk, rfl, rfl, hc1, hV, hval, rfl⟩ := hrel
    by_cases hkn : k = n
    · subst hkn
      have hV2 : V = x + y := by
        have h := hval.out
        rw [Nat.mod_eq_of_lt hlx, Nat.mod_eq_of_lt hly] at h
        rcases Nat.lt_or_ge 0 cn with h0 | h0
        · have : cn = 1 := by omega
          subst this
          omega
        · have : cn = 0 := by omega
          subst this
          omega
      have hrow : Row (rowW (mk w k) w.heap.size 0 k V) w.heap.size 0 k V := hr.row V
      have hD := hrow.digs (cap := k) hV (by rw [rowW_size, hs]; omega) (Nat.le_refl _)
      have HC := Lib.hid (cut_any w.heap.size 0 k k V _ hD (by omega))
      have HD := Lib.hid hD
      have HBV := Lib.hid (rowW_below (off := 0) (n := k) (v := V) hB (Nat.le_refl _))
      have HV := Lib.hid hV2
      clear hrow hD hval hV hV2 hsum hlx hly
      go_wp2_with fail
      refine HC.out.mono ?_
      rintro e w' ⟨rfl, rfl⟩
      go_wp2
      go_ret
      rw [← HV.out]
      exact ⟨_, _, rfl, HD.out.shrink, HBV.out, by rintro _ ⟨⟩; exact Nat.le_refl _⟩
    · have hk' : k < n := by omega
      have hBV := rowW_below (off := 0) (n := n) (v := V) hB (Nat.le_refl _)
      have h2 : (rowW (mk w n) w.heap.size 0 n V).cell? ⟨w.heap.size, k, none⟩ = some (dw (dig V k)) := by have := hr.cell (u := V) hk'; rwa [Nat.zero_add] at this
      have h3 : (rowW (mk w n) w.heap.size 0 n V).frozen? ⟨w.heap.size, k, none⟩ = false := by have := hr.free (u := V) hk'; rwa [Nat.zero_add] at this
      have hkl : (k : Int) < (n : Int) := by omega
      have kb : ((4294967296 : Int) == 0) = false := rfl
      obtain ⟨S, HS⟩ : ∃ S, S = cn + dig x k + dig y k := ⟨_, rfl⟩
      have hdx := dig_le x k
      have hdy := dig_le y k
      have hst := Lib.hid (sum_step hval.out HS)
      have hlow := Lib.hid (low_next (d := S % B) hV (Nat.mod_lt _ B_pos))
      have hSB : S / B ≤ 1 := by rw [HS]; unfold B; omega
      have hset : ∀ W : World, W = (rowW (mk w n) w.heap.size 0 n V).setCell ⟨w.heap.size, k, none⟩ (dw (S % B)) → W = rowW (mk w n) w.heap.size 0 n (V + S % B * B ^ k) := fun W h => by
        rw [h]
        have := rowW_set (w := mk w n) (b := w.heap.size) (off := 0) (n := n) (v := V) (i := k) (d := S % B) hk' (Nat.mod_lt _ B_pos)
        rw [Nat.zero_add, put_low hV] at this
        exact this
      have hnext : ∀ W : World, W = (rowW (mk w n) w.heap.size 0 n V).setCell ⟨w.heap.size, k, none⟩ (dw (S % B)) → ∃ k' cn' V' : Nat, k' ≤ n ∧ Value.int IntKind.i64 ((k + 1 : Nat) : Int) = .int .i64 k' ∧ Value.int IntKind.u64 ((S / B : Nat) : Int) = .int .u64 (cn' : Nat) ∧ cn' ≤ 1 ∧ V' < B ^ k' ∧ Hid (V' + cn' * B ^ k' = x % B ^ k' + y % B ^ k') ∧ W = rowW (mk w n) w.heap.size 0 n V' :=
        fun W h => ⟨k + 1, S / B, V + S % B * B ^ k, by omega, rfl, rfl, hSB, hlow.out, hst, hset W h⟩
      have HN2 := Lib.hid hnext
      clear hset hnext hst hlow hval hV hlx hly hsum
      have kS : IntKind.u32.wrap ((S : Int) % 4294967296) = ((S % B : Nat) : Int) := wrap32 S
      have hd64 : (S : Int) / 4294967296 = ((S / B : Nat) : Int) := rfl
      by_cases c1 : k < kx
      · by_cases c2 : k < ky
        ·
          have g1 : decide ((k : Int) < (kx : Int)) = true := by simp; omega
          have g2 : decide ((k : Int) < (ky : Int)) = true := by simp; omega
          obtain ⟨b1, o1, rfl, hb1, hc1x⟩ := hx.cells (by omega)
          have e1 : (rowW (mk w n) w.heap.size 0 n V).cell? ⟨b1, o1 + k, none⟩ = some (dw (dig x k)) := (hBV.cell (by exact hb1)).trans (hc1x k (by omega))
          obtain ⟨b2, o2, rfl, hb2, hc2x⟩ := hy.cells (by omega)
          have e2 : (rowW (mk w n) w.heap.size 0 n V).cell? ⟨b2, o2 + k, none⟩ = some (dw (dig y k)) := (hBV.cell (by exact hb2)).trans (hc2x k (by omega))
          have hcast : (cn : Int) + (dig x k : Int) + (dig y k : Int) = (S : Int) := by omega
          clear HS
          go_wp2
          try rw [hcast]
          refine ⟨HN2.out _ rfl, ?_⟩
          show n - ((k : Int) + 1).toNat < n - ((k : Int)).toNat
          omega
        ·
          have g1 : decide ((k : Int) < (kx : Int)) = true := by simp; omega
          have g2 : decide ((k : Int) < (ky : Int)) = false := by simp; omega
          obtain ⟨b1, o1, rfl, hb1, hc1x⟩ := hx.cells (by omega)
          have e1 : (rowW (mk w n) w.heap.size 0 n V).cell? ⟨b1, o1 + k, none⟩ = some (dw (dig x k)) := (hBV.cell (by exact hb1)).trans (hc1x k (by omega))
          rw [hzy k (by omega)] at HS hdy
          have hcast : (cn : Int) + (dig x k : Int) = (S : Int) := by omega
          clear HS
          go_wp2
          try rw [hcast]
          refine ⟨HN2.out _ rfl, ?_⟩
          show n - ((k : Int) + 1).toNat < n - ((k : Int)).toNat
          omega
      · by_cases c2 : k < ky
        ·
          have g1 : decide ((k : Int) < (kx : Int)) = false := by simp; omega
          have g2 : decide ((k : Int) < (ky : Int)) = true := by simp; omega
          rw [hzx k (by omega)] at HS hdx
          obtain ⟨b2, o2, rfl, hb2, hc2x⟩ := hy.cells (by omega)
          have e2 : (rowW (mk w n) w.heap.size 0 n V).cell? ⟨b2, o2 + k, none⟩ = some (dw (dig y k)) := (hBV.cell (by exact hb2)).trans (hc2x k (by omega))
          have hcast : (cn : Int) + (dig y k : Int) = (S : Int) := by omega
          clear HS
          go_wp2
          try rw [hcast]
          refine ⟨HN2.out _ rfl, ?_⟩
          show n - ((k : Int) + 1).toNat < n - ((k : Int)).toNat
          omega
        ·
          have g1 : decide ((k : Int) < (kx : Int)) = false := by simp; omega
          have g2 : decide ((k : Int) < (ky : Int)) = false := by simp; omega
          rw [hzx k (by omega)] at HS hdx
          rw [hzy k (by omega)] at HS hdy
          have hcast : (cn : Int) = (S : Int) := by omega
          clear HS
          go_wp2
          try rw [hcast]
          refine ⟨HN2.out _ rfl, ?_⟩
          show n - ((k : Int) + 1).toNat < n - ((k : Int)).toNat
          omega
end R3
end Go.Proofs.YtafckcmieepmaaaGreatDoor
namespace Go.Proofs.YtafckcmieepmaaaGreatDoor
namespace R3
open Go.RowKit Go.Sort D3
theorem diff_step {x y V c i d q : Nat} (h : V + y % B ^ i = x % B ^ i + c * B ^ i) (hd : d + (c + dig y i) = dig x i + q * B) :
    V + d * B ^ i + y % B ^ (i + 1) = x % B ^ (i + 1) + q * B ^ (i + 1) := by
  have h1 := mod_succ x i
  have h2 := mod_succ y i
  have h4 : (d + (c + dig y i)) * B ^ i = (dig x i + q * B) * B ^ i := by rw [hd]
  have h5 : q * B ^ (i + 1) = q * B * B ^ i := by rw [Nat.pow_succ, Nat.mul_comm (B ^ i) B, ← Nat.mul_assoc]
  simp only [Nat.add_mul] at h4
  omega
theorem wrap32s {n : Nat} (h : n < B) : IntKind.u32.wrap (n : Int) = ((n : Nat) : Int) := by
  have := wrap32 n
  rw [Nat.mod_eq_of_lt h] at this
  unfold B at h
  rw [← this]; congr 1; omega
set_option maxHeartbeats 4000000 in
theorem diff_any (a b : Option Addr) (ca cb x y : Nat) (w : World) (hx : DigsAt w a (nl x) ca x) (hy : DigsAt w b (nl y) cb y) (hnx : nl x ≤ 1073741824) (hyx : y ≤ x) :
    Calls Tryz.prog 89 #[.slice a (nl x) ca, .slice b (nl y) cb] w (Gives w (x - y)) := by
  obtain ⟨n, hn⟩ : ∃ n, nl x = n := ⟨_, rfl⟩
  have hly0 : nl y ≤ n := by rw [← hn]; exact nl_mono hyx
  have hlx : x < B ^ n := by rw [← hn]; exact lt_nl x
  rw [hn] at hx hnx ⊢
  clear hn
  have hmk := fun w => mk_run (n : Int) n rfl (by omega) w
  have hr := mk_row w n
  have hB := mk_below w n
  have hs : (mk w n).heap.size = w.heap.size + 1 := mk_size w n
  have hly : y < B ^ n := Nat.lt_of_le_of_lt hyx hlx
  have hzy : ∀ i, nl y ≤ i → dig y i = 0 := fun i h => dig_big (Nat.lt_of_lt_of_le (lt_nl y) (Nat.pow_le_pow_right B_pos h))
  generalize hky : nl y = ky at *
  go_enter Tryz.func89, Tryz.ntmps89
  go_wp2
  go_loopw [6, 7] (fun c i wr => ∃ k cn V : Nat, k ≤ n ∧ i = .int .i64 k ∧ c = .int .u64 (cn : Nat) ∧ cn ≤ 1 ∧ V < B ^ k ∧ Hid (V + y % B ^ k = x % B ^ k + cn * B ^ k) ∧ wr = rowW (mk w n) w.heap.size 0 n V) (fun _ i _ => n - (intOf i).toNat)
  case atStart => exact ⟨0, 0, 0, Nat.zero_le _, rfl, rfl, by omega, by simp, by simp [Hid, Nat.mod_one], hr.self.symm⟩
  case round =>
    obtain ⟨k, cn, V, hk, rfl, rfl, hc1, hV, hval, rfl⟩ := hrel
    by_cases hkn : k = n
    · subst hkn
      have hV2 : V = x - y := by
        have h := hval.out
        rw [Nat.mod_eq_of_lt hlx, Nat.mod_eq_of_lt hly] at h
        rcases Nat.lt_or_ge 0 cn with h0 | h0
        · have : cn = 1 := by omega
          subst this
          omega
        · have : cn = 0 := by omega
          subst this
          omega
      have hrow : Row (rowW (mk w k) w.heap.size 0 k V) w.heap.size 0 k V := hr.row V
      have hD := hrow.digs (cap := k) hV (by rw [rowW_size, hs]; omega) (Nat.le_refl _)
      have HC := Lib.hid (cut_any w.heap.size 0 k k V _ hD (by omega))
      have HD := Lib.hid hD
      have HBV := Lib.hid (rowW_below (off := 0) (n := k) (v := V) hB (Nat.le_refl _))
      have HV := Lib.hid hV2
      clear hrow hD hval hV hV2 hlx hly hyx
      go_wp2_with fail
      refine HC.out.mono ?_
      rintro e w' ⟨rfl, rfl⟩
      go_wp2
      go_ret
      rw [← HV.out]
      exact ⟨_, _, rfl, HD.out.shrink, HBV.out, by rintro _ ⟨⟩; exact Nat.le_refl _⟩
    · have hk' : k < n := by omega
      have hBV := rowW_below (off := 0) (n := n) (v := V) hB (Nat.le_refl _)
      have h2 : (rowW (mk w n) w.heap.size 0 n V).cell? ⟨w.heap.size, k, none⟩ = some (dw (dig V k)) := by have := hr.cell (u := V) hk'; rwa [Nat.zero_add] at this
      have h3 : (rowW (mk w n) w.heap.size 0 n V).frozen? ⟨w.heap.size, k, none⟩ = false := by have := hr.free (u := V) hk'; rwa [Nat.zero_add] at this
      have hkl : (k : Int) < (n : Int) := by omega
      obtain ⟨b1, o1, rfl, hb1, hc1x⟩ := hx.cells (by omega)
      have e1 : (rowW (mk w n) w.heap.size 0 n V).cell? ⟨b1, o1 + k, none⟩ = some (dw (dig x k)) := (hBV.cell (by exact hb1)).trans (hc1x k (by omega))
      have hdx := dig_lt x k
      have hdy := dig_lt y k
      have hnext : ∀ d q, d < B → q ≤ 1 → d + (cn + dig y k) = dig x k + q * B → ∀ W : World, W = (rowW (mk w n) w.heap.size 0 n V).setCell ⟨w.heap.size, k, none⟩ (dw d) → ∃ k' cn' V' : Nat, k' ≤ n ∧ Value.int IntKind.i64 ((k + 1 : Nat) : Int) = .int .i64 k' ∧ Value.int IntKind.u64 ((q : Nat) : Int) = .int .u64 (cn' : Nat) ∧ cn' ≤ 1 ∧ V' < B ^ k' ∧ Hid (V' + y % B ^ k' = x % B ^ k' + cn' * B ^ k') ∧ W = rowW (mk w n) w.heap.size 0 n V' :=
        fun d q hd hq he W h => ⟨k + 1, q, V + d * B ^ k, by omega, rfl, rfl, hq, low_next hV hd, Lib.hid (diff_step hval.out he), by
          rw [h]
          have := rowW_set (w := mk w n) (b := w.heap.size) (off := 0) (n := n) (v := V) (i := k) (d := d) hk' hd
          rw [Nat.zero_add, put_low hV] at this
          exact this⟩
      have HN2 := Lib.hid hnext
      clear hnext hval hV hlx hly hyx hc1x
      obtain ⟨D, hD⟩ : ∃ D, D = cn + dig y k := ⟨_, rfl⟩
      have hDB : D ≤ B := by omega
      have hB4 : B = 4294967296 := rfl
      have HDD := Lib.hid hD
      have tail_less : ∀ (_ : dig x k < D), ∃ d, d + D = dig x k + 1 * B ∧ d < B := fun h => ⟨dig x k + B - D, by omega, by omega⟩
      have tail_more : ∀ (_ : ¬ dig x k < D), ∃ d, d + D = dig x k + 0 * B ∧ d < B := fun h => ⟨dig x k - D, by omega, by omega⟩
      obtain ⟨dx, hdxe⟩ : ∃ dx, dig x k = dx := ⟨_, rfl⟩
      rw [hdxe] at e1 hdx tail_less tail_more
      by_cases c2 : k < ky
      · have g2 : decide ((k : Int) < (ky : Int)) = true := by simp; omega
        obtain ⟨b2, o2, rfl, hb2, hc2x⟩ := hy.cells (by omega)
        have e2 : (rowW (mk w n) w.heap.size 0 n V).cell? ⟨b2, o2 + k, none⟩ = some (dw (dig y k)) := (hBV.cell (by exact hb2)).trans (hc2x k (by omega))
        have hcast : (cn : Int) + (dig y k : Int) = (D : Int) := by omega
        clear hc2x
        by_cases c3 : dx < D
        ·
          have g3 : decide ((dx : Int) < (D : Int)) = true := by simp; omega
          obtain ⟨d, hd1, hd2⟩ := tail_less c3
          have hx4 : ((dx : Int) + 4294967296 - (D : Int)) = (d : Int) := by omega
          have kd := wrap32s hd2
          have he : d + (cn + dig y k) = dig x k + 1 * B := by rw [← HDD.out, hdxe]; exact hd1
          have HR := Lib.hid (HN2.out d 1 hd2 (by omega) he)
          clear hD tail_less tail_more hzy hd1 he
          go_wp2
          refine ⟨HR.out _ rfl, ?_⟩
          show n - ((k : Int) + 1).toNat < n - ((k : Int)).toNat
          omega
        ·
          have g3 : decide ((dx : Int) < (D : Int)) = false := by simp; omega
          obtain ⟨d, hd1, hd2⟩ := tail_more c3
          have hx4 : ((dx : Int) - (D : Int)) = (d : Int) := by omega
          have kd := wrap32s hd2
          have he : d + (cn + dig y k) = dig x k + 0 * B := by rw [← HDD.out, hdxe]; exact hd1
          have HR := Lib.hid (HN2.out d 0 hd2 (by omega) he)
          clear hD tail_less tail_more hzy hd1 he
          go_wp2
          refine ⟨HR.out _ rfl, ?_⟩
          show n - ((k : Int) + 1).toNat < n - ((k : Int)).toNat
          omega
      · have g2 : decide ((k : Int) < (ky : Int)) = false := by simp; omega
        have hcD : cn = D := by rw [hD, hzy k (by omega)]; rfl
        subst hcD
        by_cases c3 : dx < cn
        ·
          have g3 : decide ((dx : Int) < (cn : Int)) = true := by simp; omega
          obtain ⟨d, hd1, hd2⟩ := tail_less c3
          have hx4 : ((dx : Int) + 4294967296 - (cn : Int)) = (d : Int) := by omega
          have kd := wrap32s hd2
          have he : d + (cn + dig y k) = dig x k + 1 * B := by rw [← HDD.out, hdxe]; exact hd1
          have HR := Lib.hid (HN2.out d 1 hd2 (by omega) he)
          clear hD tail_less tail_more hzy hd1 he
          go_wp2
          refine ⟨HR.out _ rfl, ?_⟩
          show n - ((k : Int) + 1).toNat < n - ((k : Int)).toNat
          omega
        ·
          have g3 : decide ((dx : Int) < (cn : Int)) = false := by simp; omega
          obtain ⟨d, hd1, hd2⟩ := tail_more c3
          have hx4 : ((dx : Int) - (cn : Int)) = (d : Int) := by omega
          have kd := wrap32s hd2
          have he : d + (cn + dig y k) = dig x k + 0 * B := by rw [← HDD.out, hdxe]; exact hd1
          have HR := Lib.hid (HN2.out d 0 hd2 (by omega) he)
          clear hD tail_less tail_more hzy hd1 he
          go_wp2
          refine ⟨HR.out _ rfl, ?_⟩
          show n - ((k : Int) + 1).toNat < n - ((k : Int)).toNat
          omega
end R3
end Go.Proofs.YtafckcmieepmaaaGreatDoor
namespace Go.Proofs.YtafckcmieepmaaaGreatDoor
namespace R3
open Go.RowKit Go.Sort D3
theorem dig_half (x k : Nat) : dig (x / 2) k = dig x k / 2 + dig x (k + 1) % 2 * 2147483648 := by
  unfold dig
  rw [Nat.div_div_eq_div_mul, Nat.mul_comm 2, ← Nat.div_div_eq_div_mul, Nat.pow_succ, ← Nat.div_div_eq_div_mul]
  generalize x / B ^ k = q
  unfold B
  omega
theorem half_next {x k V : Nat} (h : V = x / 2 % B ^ k) : V + dig (x / 2) k * B ^ k = x / 2 % B ^ (k + 1) := by rw [h, ← mod_succ]
set_option maxHeartbeats 4000000 in
theorem halved_any (a : Option Addr) (ca x : Nat) (w : World) (hx : DigsAt w a (nl x) ca x) (hnx : nl x ≤ 1073741824) :
    Calls Tryz.prog 110 #[.slice a (nl x) ca] w (Gives w (x / 2)) := by
  obtain ⟨n, hn⟩ : ∃ n, nl x = n := ⟨_, rfl⟩
  have hlx : x < B ^ n := by rw [← hn]; exact lt_nl x
  rw [hn] at hx hnx ⊢
  clear hn
  have hmk := fun w => mk_run (n : Int) n rfl (by omega) w
  have hr := mk_row w n
  have hB := mk_below w n
  have hs : (mk w n).heap.size = w.heap.size + 1 := mk_size w n
  have hz : dig x n = 0 := dig_big hlx
  go_enter Tryz.func110, Tryz.ntmps110
  go_wp2
  go_loopw [4] (fun i wr => ∃ k V : Nat, k ≤ n ∧ i = .int .i64 k ∧ Hid (V = x / 2 % B ^ k) ∧ wr = rowW (mk w n) w.heap.size 0 n V) (fun i _ => n - (intOf i).toNat)
  case atStart => exact ⟨0, 0, Nat.zero_le _, rfl, by simp [Hid, Nat.mod_one], hr.self.symm⟩
  case round =>
    obtain ⟨k, V, hk, rfl, hval, rfl⟩ := hrel
    by_cases hkn : k = n
    · subst hkn
      have hV2 : V = x / 2 := by
        have h := hval.out
        rw [Nat.mod_eq_of_lt (Nat.lt_of_le_of_lt (Nat.div_le_self _ _) hlx)] at h
        exact h
      have hV : V < B ^ k := by rw [hV2]; exact Nat.lt_of_le_of_lt (Nat.div_le_self _ _) hlx
      have hrow : Row (rowW (mk w k) w.heap.size 0 k V) w.heap.size 0 k V := hr.row V
      have hD := hrow.digs (cap := k) hV (by rw [rowW_size, hs]; omega) (Nat.le_refl _)
      have HC := Lib.hid (cut_any w.heap.size 0 k k V _ hD (by omega))
      have HD := Lib.hid hD
      have HBV := Lib.hid (rowW_below (off := 0) (n := k) (v := V) hB (Nat.le_refl _))
      have HV := Lib.hid hV2
      clear hrow hD hval hV hV2 hlx hz
      go_wp2_with fail
      refine HC.out.mono ?_
      rintro e w' ⟨rfl, rfl⟩
      go_wp2
      go_ret
      rw [← HV.out]
      exact ⟨_, _, rfl, HD.out.shrink, HBV.out, by rintro _ ⟨⟩; exact Nat.le_refl _⟩
    · have hk' : k < n := by omega
      have hV : V < B ^ k := by rw [hval.out]; exact Nat.mod_lt _ (B_pow_pos k)
      have hBV := rowW_below (off := 0) (n := n) (v := V) hB (Nat.le_refl _)
      have h2 : (rowW (mk w n) w.heap.size 0 n V).cell? ⟨w.heap.size, k, none⟩ = some (dw (dig V k)) := by have := hr.cell (u := V) hk'; rwa [Nat.zero_add] at this
      have h3 : (rowW (mk w n) w.heap.size 0 n V).frozen? ⟨w.heap.size, k, none⟩ = false := by have := hr.free (u := V) hk'; rwa [Nat.zero_add] at this
      have hkl : (k : Int) < (n : Int) := by omega
      obtain ⟨b1, o1, rfl, hb1, hc1x⟩ := hx.cells (by omega)
      have e1 : (rowW (mk w n) w.heap.size 0 n V).cell? ⟨b1, o1 + k, none⟩ = some (dw (dig x k)) := (hBV.cell (by exact hb1)).trans (hc1x k (by omega))
      have hdx := dig_lt x k
      have hnx2 := Lib.hid (half_next hval.out)
      obtain ⟨d0, hd0⟩ : ∃ d0, d0 = dig x k / 2 := ⟨_, rfl⟩
      obtain ⟨W1, hW1⟩ : ∃ W1, W1 = rowW (mk w n) w.heap.size 0 n (V + d0 * B ^ k) := ⟨_, rfl⟩
      have hd0B : d0 < 2147483648 := by unfold B at hdx; omega
      have hset : (rowW (mk w n) w.heap.size 0 n V).setCell ⟨w.heap.size, k, none⟩ (.int .u32 ((dig x k : Int) / 2)) = W1 := by
        have := rowW_set (w := mk w n) (b := w.heap.size) (off := 0) (n := n) (v := V) (i := k) (d := d0) hk' (by unfold B; omega)
        rw [Nat.zero_add, put_low hV] at this
        rw [hW1, ← this, hd0]; rfl
      have kz : ((2 : Int) == 0) = false := rfl
      have kq : IntKind.u32.wrap ((dig x k : Int) / 2) = (dig x k : Int) / 2 := by
        have := wrap32s (n := dig x k / 2) (by unfold B at hdx ⊢; omega)
        exact this
      have e1n : k + 1 < n → W1.cell? ⟨b1, o1 + (k + 1), none⟩ = some (dw (dig x (k + 1))) := fun h => by
        rw [hW1]
        exact ((rowW_below (off := 0) (n := n) (v := V + d0 * B ^ k) hB (Nat.le_refl _)).cell (by exact hb1)).trans (hc1x (k + 1) h)
      have e2n : W1.cell? ⟨w.heap.size, k, none⟩ = some (dw d0) := by
        have := hr.cell (u := V + d0 * B ^ k) hk'
        rw [Nat.zero_add, ← put_low hV, dig_put_same (by unfold B; omega), put_low hV] at this
        rw [hW1]; exact this
      have e3n : W1.frozen? ⟨w.heap.size, k, none⟩ = false := by have := hr.free (u := V + d0 * B ^ k) hk'; rw [Nat.zero_add] at this; rw [hW1]; exact this
      have hdh := dig_half x k
      have HNE := Lib.hid (show ∀ d, d = dig (x / 2) k → V + d * B ^ k = x / 2 % B ^ (k + 1) from fun d h => by rw [h]; exact hnx2.out)
      have hset2 : ∀ d, d < B → ∀ W : World, W = W1.setCell ⟨w.heap.size, k, none⟩ (dw d) → W = rowW (mk w n) w.heap.size 0 n (V + d * B ^ k) := fun d hd W h => by
        rw [h, hW1, ← rowW_rowW _ _ _ _ V]
        have := rowW_set (w := rowW (mk w n) w.heap.size 0 n V) (b := w.heap.size) (off := 0) (n := n) (v := V + d0 * B ^ k) (i := k) (d := d) hk' hd
        rw [Nat.zero_add] at this
        rw [this, rowW_rowW, ← put_low (d := d0) hV, ← put_low (d := d) hV]
        congr 1
        have p1 := put_split (put V k d0) k d
        have p2 := put_split V k d
        rw [p1, p2, put_mod (by unfold B; omega), put_div (by unfold B; omega)]
      have HW1 := Lib.hid hW1
      have HD0 := Lib.hid hd0
      have HS2 := Lib.hid hset2
      have hzk : k + 1 = n → dig x (k + 1) = 0 := fun h => by rw [h]; exact hz
      clear hc1x hW1 hd0 hset2 hnx2 hlx hV hz
      by_cases c1 : k + 1 < n ∧ dig x (k + 1) % 2 = 1
      · obtain ⟨c1, c2⟩ := c1
        have g1 : decide ((k : Int) + 1 < (n : Int)) = true := by simp; omega
        have g2 : ((((dig x (k + 1) : Nat) : Int) % 2) == 1) = true := by rw [beq_iff_eq]; omega
        have e4 := e1n c1
        have e5 : ((k : Int) + 1).toNat = k + 1 := by omega
        have kw : IntKind.u32.wrap ((d0 : Int) + 2147483648) = ((d0 + 2147483648 : Nat) : Int) := by
          have := wrap32s (n := d0 + 2147483648) (by unfold B; omega)
          rw [← this]; congr 1
        have hres := HNE.out (d0 + 2147483648) (by rw [hdh, HD0.out]; omega)
        have HR := Lib.hid (show ∀ W : World, W = W1.setCell ⟨w.heap.size, k, none⟩ (dw (d0 + 2147483648)) → ∃ k' V' : Nat, k' ≤ n ∧ Value.int IntKind.i64 ((k + 1 : Nat) : Int) = .int .i64 k' ∧ Hid (V' = x / 2 % B ^ k') ∧ W = rowW (mk w n) w.heap.size 0 n V' from fun W h => ⟨k + 1, _, by omega, rfl, Lib.hid hres, HS2.out _ (by unfold B; omega) W h⟩)
        clear e1n hzk hdh hres
        go_wp2
        refine ⟨HR.out _ rfl, ?_⟩
        show n - ((k : Int) + 1).toNat < n - ((k : Int)).toNat
        omega
      · have hres := HNE.out d0 (by
          rw [hdh, HD0.out]
          rcases Nat.lt_or_ge (k + 1) n with h | h
          · have : ¬ dig x (k + 1) % 2 = 1 := fun h2 => c1 ⟨h, h2⟩
            omega
          · rw [hzk (by omega)]; omega)
        have HR := Lib.hid (show ∃ k' V' : Nat, k' ≤ n ∧ Value.int IntKind.i64 ((k + 1 : Nat) : Int) = .int .i64 k' ∧ Hid (V' = x / 2 % B ^ k') ∧ W1 = rowW (mk w n) w.heap.size 0 n V' from ⟨k + 1, _, by omega, rfl, Lib.hid hres, HW1.out⟩)
        by_cases c2 : k + 1 < n
        · have g1 : decide ((k : Int) + 1 < (n : Int)) = true := by simp; omega
          have g2 : ((((dig x (k + 1) : Nat) : Int) % 2) == 1) = false := by rw [beq_eq_false_iff_ne]; intro h; exact c1 ⟨c2, by omega⟩
          have e4 := e1n c2
          have e5 : ((k : Int) + 1).toNat = k + 1 := by omega
          clear e1n hzk hdh hres
          go_wp2
          refine ⟨HR.out, ?_⟩
          show n - ((k : Int) + 1).toNat < n - ((k : Int)).toNat
          omega
        · have g1 : decide ((k : Int) + 1 < (n : Int)) = false := by simp; omega
          clear e1n hzk hdh hres
          go_wp2
          refine ⟨HR.out, ?_⟩
          show n - ((k : Int) + 1).toNat < n - ((k : Int)).toNat
          omega
def GivesD (w : World) (q r : Nat) (e : Ending) (w' : World) : Prop := ∃ a c, e = .returned (.tuple #[.slice a (nl q) c, dw r]) ∧ DigsAt w' a (nl q) c q ∧ Below w.heap.size w w'
theorem by_step {x d j : Nat} (hd : 0 < d) (_hdB : d < B) : x / B ^ j / d = x / B ^ (j + 1) / d * B + (x / B ^ (j + 1) % d * B + dig x j) / d ∧ x / B ^ j % d = (x / B ^ (j + 1) % d * B + dig x j) % d ∧ (x / B ^ (j + 1) % d * B + dig x j) / d < B := by
  have h := div_succ x j
  have hx := dig_lt x j
  rw [h]
  generalize x / B ^ (j + 1) = X
  generalize dig x j = g at *
  have e : X * B + g = d * (X / d * B) + (X % d * B + g) := by
    have := Nat.div_add_mod X d
    calc X * B + g = (d * (X / d) + X % d) * B + g := by rw [this]
      _ = d * (X / d * B) + (X % d * B + g) := by rw [Nat.add_mul, Nat.mul_assoc, Nat.add_assoc]
  have hr := Nat.mod_lt X hd
  rw [e]
  refine ⟨?_, ?_, ?_⟩
  · rw [Nat.mul_add_div hd]
  · rw [Nat.mul_add_mod]
  · rw [Nat.div_lt_iff_lt_mul hd]
    have : X % d * B + B ≤ d * B := by rw [← Nat.succ_mul]; exact Nat.mul_le_mul_right _ hr
    rw [Nat.mul_comm B d]; omega
set_option maxHeartbeats 4000000 in
theorem byDigit_any (a : Option Addr) (ca x d : Nat) (w : World) (hx : DigsAt w a (nl x) ca x) (hnx : nl x ≤ 1073741824) (hd : 0 < d) (hdB : d < B) :
    Calls Tryz.prog 107 #[.slice a (nl x) ca, dw d] w (GivesD w (x / d) (x % d)) := by
  obtain ⟨n, hn⟩ : ∃ n, nl x = n := ⟨_, rfl⟩
  have hlx : x < B ^ n := by rw [← hn]; exact lt_nl x
  rw [hn] at hx hnx ⊢
  clear hn
  have hmk := fun w => mk_run (n : Int) n rfl (by omega) w
  have hr := mk_row w n
  have hB := mk_below w n
  have hs : (mk w n).heap.size = w.heap.size + 1 := mk_size w n
  have hd0 : ((d : Int) == 0) = false := by rw [beq_eq_false_iff_ne]; omega
  have hd64 : IntKind.u64.wrap (d : Int) = (d : Int) := wrap64s (by unfold B at hdB; omega)
  go_enter Tryz.func107, Tryz.ntmps107
  go_wp2
  go_loopw [7, 8] (fun c i wr => ∃ j r V : Nat, j ≤ n ∧ i = .int .i64 ((j : Int) - 1) ∧ c = .int .u64 (r : Nat) ∧ Hid (r = x / B ^ j % d) ∧ r < d ∧ Hid (V = x / B ^ j / d * B ^ j) ∧ wr = rowW (mk w n) w.heap.size 0 n V) (fun _ i _ => (intOf i + 1).toNat)
  case atStart => exact ⟨n, 0, 0, Nat.le_refl _, by go_num, rfl, by unfold Hid; rw [Nat.div_eq_of_lt hlx, Nat.zero_mod], hd, by unfold Hid; rw [Nat.div_eq_of_lt hlx, Nat.zero_div, Nat.zero_mul], hr.self.symm⟩
  case round =>
    obtain ⟨j, r, V, hj, rfl, rfl, hre, hrd, hval, rfl⟩ := hrel
    by_cases hj0 : j = 0
    · subst hj0
      have hV2 : V = x / d := by have := hval.out; rw [Nat.pow_zero, Nat.div_one, Nat.mul_one] at this; exact this
      have hR2 : r = x % d := by have := hre.out; rw [Nat.pow_zero, Nat.div_one] at this; exact this
      have hV : V < B ^ n := by rw [hV2]; exact Nat.lt_of_le_of_lt (Nat.div_le_self _ _) hlx
      have hrow : Row (rowW (mk w n) w.heap.size 0 n V) w.heap.size 0 n V := hr.row V
      have hD := hrow.digs (cap := n) hV (by rw [rowW_size, hs]; omega) (Nat.le_refl _)
      have HC := Lib.hid (cut_any w.heap.size 0 n n V _ hD (by omega))
      have HD := Lib.hid hD
      have HBV := Lib.hid (rowW_below (off := 0) (n := n) (v := V) hB (Nat.le_refl _))
      have HV := Lib.hid hV2
      have HR := Lib.hid hR2
      have kr : IntKind.u32.wrap (r : Int) = (r : Int) := wrap32s (by omega)
      clear hrow hD hval hV hV2 hlx hre hR2
      go_wp2_with fail
      refine HC.out.mono ?_
      rintro e w' ⟨rfl, rfl⟩
      go_wp2
      go_ret2
      rw [← HV.out, ← HR.out]
      exact ⟨_, _, rfl, HD.out.shrink, HBV.out⟩
    · have hj1 : (0 : Int) ≤ (j : Int) - 1 := by omega
      have hj2 : (j : Int) - 1 < (n : Int) := by omega
      have e0 : ((j : Int) - 1).toNat = j - 1 := by omega
      have hk' : j - 1 < n := by omega
      have hBV := rowW_below (off := 0) (n := n) (v := V) hB (Nat.le_refl _)
      have h2 : (rowW (mk w n) w.heap.size 0 n V).cell? ⟨w.heap.size, j - 1, none⟩ = some (dw (dig V (j - 1))) := by have := hr.cell (u := V) hk'; rwa [Nat.zero_add] at this
      have h3 : (rowW (mk w n) w.heap.size 0 n V).frozen? ⟨w.heap.size, j - 1, none⟩ = false := by have := hr.free (u := V) hk'; rwa [Nat.zero_add] at this
      obtain ⟨b1, o1, rfl, hb1, hc1x⟩ := hx.cells (by omega)
      have e1 : (rowW (mk w n) w.heap.size 0 n V).cell? ⟨b1, o1 + (j - 1), none⟩ = some (dw (dig x (j - 1))) := (hBV.cell (by exact hb1)).trans (hc1x (j - 1) hk')
      have hdx := dig_le x (j - 1)
      obtain ⟨s1, s2, s3⟩ := by_step (x := x) (j := j - 1) hd hdB
      rw [show j - 1 + 1 = j by omega, ← hre.out] at s1 s2 s3
      obtain ⟨X, hX⟩ : ∃ X, X = r * B + dig x (j - 1) := ⟨_, rfl⟩
      rw [← hX] at s1 s2 s3
      have hXb : X < 18446744073709551616 := by
        have : r * B + B ≤ d * B := by rw [← Nat.succ_mul]; exact Nat.mul_le_mul_right _ hrd
        have : d * B ≤ B * B := Nat.mul_le_mul_right _ (by omega)
        have : B * B = 18446744073709551616 := rfl
        have hB4 : B = 4294967296 := rfl
        omega
      obtain ⟨Y, hY⟩ : ∃ Y, Y = r * B := ⟨_, rfl⟩
      have k1 : IntKind.u64.wrap ((r : Int) * 4294967296) = (Y : Int) := by
        have := wrap64s (n := r * B) (by omega)
        rw [hY, ← this]; congr 1
      have k2 : IntKind.u64.wrap ((Y : Int) + (dig x (j - 1) : Int)) = (X : Int) := by
        rw [hY, ← Int.natCast_add, ← hX]; exact wrap64s hXb
      have kq : IntKind.u64.wrap ((X : Int) / (d : Int)) = ((X / d : Nat) : Int) := by
        have := wrap64s (n := X / d) (by unfold B at s3; omega)
        exact this
      have kq2 : IntKind.u32.wrap ((X / d : Nat) : Int) = ((X / d : Nat) : Int) := wrap32s s3
      have hdig0 : dig V (j - 1) = 0 := by
        rw [hval.out]
        unfold dig
        rw [show B ^ j = B * B ^ (j - 1) by rw [← Nat.pow_succ']; congr 1; omega, ← Nat.mul_assoc, Nat.mul_div_cancel _ (B_pow_pos _), Nat.mul_mod_left]
      have hput : put V (j - 1) (X / d) = V + X / d * B ^ (j - 1) := by
        have := put_add V (j - 1) (X / d)
        rw [hdig0, Nat.zero_mul] at this; exact this
      have hV' : V + X / d * B ^ (j - 1) = x / B ^ (j - 1) / d * B ^ (j - 1) := by
        rw [s1, hval.out, Nat.add_mul, show B ^ j = B * B ^ (j - 1) by rw [← Nat.pow_succ']; congr 1; omega, ← Nat.mul_assoc]
      have HR := Lib.hid (show ∀ W : World, W = (rowW (mk w n) w.heap.size 0 n V).setCell ⟨w.heap.size, j - 1, none⟩ (dw (X / d)) → ∃ j' r' V' : Nat, j' ≤ n ∧ Value.int IntKind.i64 (((j - 1 : Nat) : Int) - 1) = .int .i64 ((j' : Int) - 1) ∧ Value.int IntKind.u64 ((X % d : Nat) : Int) = .int .u64 (r' : Nat) ∧ Hid (r' = x / B ^ j' % d) ∧ r' < d ∧ Hid (V' = x / B ^ j' / d * B ^ j') ∧ W = rowW (mk w n) w.heap.size 0 n V' from
        fun W h => ⟨j - 1, X % d, V + X / d * B ^ (j - 1), by omega, rfl, rfl, Lib.hid s2.symm, Nat.mod_lt _ hd, Lib.hid hV', by
          rw [h]
          have := rowW_set (w := mk w n) (b := w.heap.size) (off := 0) (n := n) (v := V) (i := j - 1) (d := X / d) hk' s3
          rw [Nat.zero_add, hput] at this
          exact this⟩)
      have km : ((X : Int) % (d : Int)) = ((X % d : Nat) : Int) := rfl
      clear hc1x s1 s2 hre hval hV' hput hdig0 hlx hX hY
      have ej : ((j : Int) - 1 - 1) = ((j - 1 : Nat) : Int) - 1 := by omega
      have kq3 : ((X : Int) / (d : Int) % 4294967296) = ((X / d : Nat) : Int) := by
        rw [show ((X : Int) / (d : Int) % 4294967296) = ((X / d % 4294967296 : Nat) : Int) from rfl, Nat.mod_eq_of_lt (show X / d < 4294967296 from s3)]
      have EJ := Lib.hid ej
      have KQ := Lib.hid kq3
      clear ej kq3
      go_wp2
      rw [EJ.out, KQ.out]
      refine ⟨HR.out _ rfl, ?_⟩
      rw [← EJ.out]
      show (((j : Int) - 1 - 1) + 1).toNat < (((j : Int) - 1) + 1).toNat
      omega
end R3
end Go.Proofs.YtafckcmieepmaaaGreatDoor
namespace Go.Proofs.YtafckcmieepmaaaGreatDoor
namespace R3
open Go.RowKit Go.Sort D3
theorem prod_step {T V c dx y i k n X : Nat} (h : V + c * B ^ (i + k) = T + dx * (y % B ^ k) * B ^ i) (hX : X = dig V (i + k) + c + dx * dig y k) (hn : n = i + k) :
    put V n (X % B) + X / B * B ^ (i + (k + 1)) = T + dx * (y % B ^ (k + 1)) * B ^ i := by
  subst hn
  have h1 := put_add V (i + k) (X % B)
  have h2 := mod_succ y k
  have h3 := Nat.mod_add_div X B
  have e1 : B ^ (i + (k + 1)) = B * B ^ (i + k) := by rw [← Nat.add_assoc, Nat.pow_succ, Nat.mul_comm]
  have e2 : B ^ (i + k) = B ^ k * B ^ i := by rw [Nat.pow_add, Nat.mul_comm]
  have h4 : (X % B + B * (X / B)) * B ^ (i + k) = (dig V (i + k) + c + dx * dig y k) * B ^ (i + k) := by rw [h3, hX]
  rw [h2, e1]
  generalize X % B = r at *
  generalize X / B = q at *
  generalize dig V (i + k) = dv at *
  generalize dig y k = dy at *
  generalize y % B ^ k = yk at *
  have e3 : dx * (yk + dy * B ^ k) * B ^ i = dx * yk * B ^ i + dx * dy * B ^ (i + k) := by
    rw [e2, Nat.mul_add, Nat.add_mul, ← Nat.mul_assoc dx dy, Nat.mul_assoc (dx * dy)]
  have e4 : q * (B * B ^ (i + k)) = B * q * B ^ (i + k) := by rw [← Nat.mul_assoc, Nat.mul_comm q B]
  rw [e3, e4]
  simp only [Nat.add_mul] at h4
  omega
theorem Row.drawn {w : World} {b off n v : Nat} (h : Row w b off n v) (q : Nat) : Row (w.drewN q) b off n v := h
theorem below_dn {B : Nat} {a w : World} (h : Below B a w) (q : Nat) : Below B a (w.drewN q) := ⟨h.os, h.tape, h.output, h.size, h.block⟩
theorem prod_next {x y i : Nat} : x % B ^ i * y + dig x i * y * B ^ i = x % B ^ (i + 1) * y := by
  rw [mod_succ, Nat.add_mul]
  congr 1
  rw [Nat.mul_assoc, Nat.mul_assoc, Nat.mul_comm y]
set_option maxHeartbeats 4000000 in
theorem prod_any (a b : Option Addr) (ca cb x y : Nat) (w : World) (hx : DigsAt w a (nl x) ca x) (hy : DigsAt w b (nl y) cb y) (hnx : nl x ≤ 536870912) (hny : nl y ≤ 536870912) :
    Calls Tryz.prog 86 #[.slice a (nl x) ca, .slice b (nl y) cb] w (Gives w (x * y)) := by
  obtain ⟨nx, hnxe⟩ : ∃ n, nl x = n := ⟨_, rfl⟩
  obtain ⟨ny, hnye⟩ : ∃ n, nl y = n := ⟨_, rfl⟩
  have hlx : x < B ^ nx := by rw [← hnxe]; exact lt_nl x
  have hly : y < B ^ ny := by rw [← hnye]; exact lt_nl y
  rw [hnxe] at hx hnx ⊢
  rw [hnye] at hy hny ⊢
  clear hnxe hnye
  obtain ⟨n, hn⟩ : ∃ n, n = nx + ny := ⟨_, rfl⟩
  have hmk := fun w => mk_run ((nx : Int) + (ny : Int)) n (by omega) (by omega) w
  have hr := Lib.hid (mk_row w n)
  have hB := Lib.hid (mk_below w n)
  have hs : w.heap.size < (mk w n).heap.size := by rw [mk_size]; omega
  have hxy : x * y < B ^ n := by
    rw [hn, Nat.pow_add]
    exact Nat.mul_lt_mul'' hlx hly
  have hzy : ∀ i, ny ≤ i → dig y i = 0 := fun i h => dig_big (Nat.lt_of_lt_of_le hly (Nat.pow_le_pow_right B_pos h))
  have HXY := Lib.hid hxy
  have HN := Lib.hid hn
  have hn30 : n ≤ 1073741824 := by omega
  clear hn hxy
  go_enter Tryz.func86, Tryz.ntmps86
  go_wp2
  go_loopw [6] (fun vi wr => ∃ i V : Nat, i ≤ nx ∧ vi = .int .i64 i ∧ Hid (V = x % B ^ i * y) ∧ Hid (Row wr w.heap.size 0 n V) ∧ Hid (Below w.heap.size w wr) ∧ w.heap.size < wr.heap.size) (fun vi _ => nx - (intOf vi).toNat)
  case atStart => exact ⟨0, 0, Nat.zero_le _, rfl, by simp [Hid, Nat.mod_one], hr, hB, hs⟩
  case round =>
    clear hr hB hs
    obtain ⟨i, V, hi, rfl, hval, hrow, hbel, hsz⟩ := hrel
    by_cases hin : i = nx
    · subst hin
      have hV2 : V = x * y := by have := hval.out; rwa [Nat.mod_eq_of_lt hlx] at this
      have hV : V < B ^ n := by rw [hV2]; exact HXY.out
      have hD := hrow.out.digs (cap := n) hV hsz (Nat.le_refl _)
      have HC := Lib.hid (cut_any w.heap.size 0 n n V _ hD (by omega))
      have HD := Lib.hid hD
      have HV := Lib.hid hV2
      clear hD hval hV hV2 hlx hly
      go_wp2_with fail
      refine HC.out.mono ?_
      rintro e w' ⟨rfl, rfl⟩
      go_wp2
      go_ret
      rw [← HV.out]
      exact ⟨_, _, rfl, HD.out.shrink, hbel.out, by rintro _ ⟨⟩; exact Nat.le_refl _⟩
    · have hi' : i < nx := by omega
      have hil : (i : Int) < (nx : Int) := by omega
      go_wp2
      go_loopw [7, 8] (fun vc vk wr => ∃ c k V : Nat, vc = .int .u64 (c : Nat) ∧ vk = .int .i64 k ∧ c < B ∧ V < B ^ n ∧ i + k ≤ n ∧ Hid (V + c * B ^ (i + k) = x % B ^ i * y + dig x i * (y % B ^ k) * B ^ i) ∧ Hid (Row wr w.heap.size 0 n V) ∧ Hid (Below w.heap.size w wr) ∧ w.heap.size < wr.heap.size) (fun _ vk _ => n - (intOf vk).toNat)
      case atStart => exact ⟨0, 0, V, rfl, rfl, B_pos, by rw [hval.out]; exact Nat.lt_of_le_of_lt (Nat.mul_le_mul_right _ (Nat.mod_le _ _)) HXY.out, by have := HN.out; omega, by simp [Hid, Nat.mod_one, hval.out], hrow, hbel, hsz⟩
      case round =>
        clear hval hrow hbel hsz
        obtain ⟨c, k, V, rfl, rfl, hcB, hV, hik, hval, hrow, hbel, hsz⟩ := hrel
        by_cases hend : ny ≤ k ∧ c = 0
        · obtain ⟨h1, rfl⟩ := hend
          have g1 : decide ((k : Int) < (ny : Int)) = false := by simp; omega
          have hv2 : V = x % B ^ (i + 1) * y := by
            have h := hval.out
            rw [Nat.zero_mul, Nat.add_zero, Nat.mod_eq_of_lt (Nat.lt_of_lt_of_le hly (Nat.pow_le_pow_right B_pos h1)), prod_next] at h
            exact h
          have HR := Lib.hid (show ∃ i' V' : Nat, i' ≤ nx ∧ Value.int IntKind.i64 ((i + 1 : Nat) : Int) = .int .i64 i' ∧ Hid (V' = x % B ^ i' * y) ∧ Hid (Row wr w.heap.size 0 n V') ∧ Hid (Below w.heap.size w wr) ∧ w.heap.size < wr.heap.size from ⟨i + 1, V, by omega, rfl, Lib.hid hv2, hrow, hbel, hsz⟩)
          clear hval hv2 hV hlx hly
          go_wp2
          case roundEnd =>
            refine ⟨HR.out, ?_⟩
            show nx - ((i : Int) + 1).toNat < nx - ((i : Int)).toNat
            omega
        · have hidx : i + k < n := by
            rcases Nat.lt_or_ge k ny with h | h
            · have := HN.out; omega
            · have hc0 : 0 < c := by omega
              have h1 := hval.out
              rw [Nat.mod_eq_of_lt (Nat.lt_of_lt_of_le hly (Nat.pow_le_pow_right B_pos h)), prod_next] at h1
              have h2 : x % B ^ (i + 1) * y ≤ x * y := Nat.mul_le_mul_right _ (Nat.mod_le _ _)
              have h3 : B ^ (i + k) ≤ c * B ^ (i + k) := Nat.le_mul_of_pos_left _ hc0
              have h4 := HXY.out
              rcases Nat.lt_or_ge (i + k) n with h5 | h5
              · exact h5
              · have := Nat.pow_le_pow_right B_pos h5
                omega
          have h2 : wr.cell? ⟨w.heap.size, i + k, none⟩ = some (dw (dig V (i + k))) := by
            have := hrow.out.cell (u := V) hidx
            rwa [hrow.out.self, Nat.zero_add] at this
          have h3 : wr.frozen? ⟨w.heap.size, i + k, none⟩ = false := by
            have := hrow.out.free (u := V) hidx
            rwa [hrow.out.self, Nat.zero_add] at this
          have e0 : ((i : Int) + (k : Int)).toNat = i + k := by omega
          have e00 : (0 : Int) ≤ (i : Int) + (k : Int) := by omega
          have e01 : (i : Int) + (k : Int) < (n : Int) := by omega
          have hB4 : B = 4294967296 := rfl
          obtain ⟨dx, hdx⟩ : ∃ d, d = dig x i := ⟨_, rfl⟩
          obtain ⟨dy, hdy⟩ : ∃ d, d = dig y k := ⟨_, rfl⟩
          obtain ⟨dv, hdv⟩ : ∃ d, d = dig V (i + k) := ⟨_, rfl⟩
          have bx : dx ≤ 4294967295 := by rw [hdx]; exact dig_le ..
          have bY : dy ≤ 4294967295 := by rw [hdy]; exact dig_le ..
          have bv : dv ≤ 4294967295 := by rw [hdv]; exact dig_le ..
          obtain ⟨S1, hS1⟩ : ∃ S, S = dv + c := ⟨_, rfl⟩
          obtain ⟨P, hP⟩ : ∃ P, P = dx * dy := ⟨_, rfl⟩
          have bP : P ≤ 4294967295 * 4294967295 := by rw [hP]; exact Nat.mul_le_mul bx bY
          obtain ⟨X, hX⟩ : ∃ X, X = S1 + P := ⟨_, rfl⟩
          have bX : X < 18446744073709551616 := by omega
          have hXB : X / B < B := by rw [Nat.div_lt_iff_lt_mul B_pos]; rw [hB4]; omega
          have hst := prod_step (X := X) hval.out (by rw [hX, hS1, hP, hdv, hdx, hdy]) rfl
          have hlt := put_lt (d := X % B) hV hidx (Nat.mod_lt _ B_pos)
          have HR := Lib.hid (show ∀ W0 W : World, Row W0 w.heap.size 0 n V → Below w.heap.size w W0 → w.heap.size < W0.heap.size → W = W0.setCell ⟨w.heap.size, i + k, none⟩ (dw (X % B)) → ∃ c' k' V' : Nat, Value.int IntKind.u64 ((X / B : Nat) : Int) = .int .u64 (c' : Nat) ∧ Value.int IntKind.i64 ((k + 1 : Nat) : Int) = .int .i64 k' ∧ c' < B ∧ V' < B ^ n ∧ i + k' ≤ n ∧ Hid (V' + c' * B ^ (i + k') = x % B ^ i * y + dig x i * (y % B ^ k') * B ^ i) ∧ Hid (Row W w.heap.size 0 n V') ∧ Hid (Below w.heap.size w W) ∧ w.heap.size < W.heap.size from
            fun W0 W hr0 hb0 hs0 hW => by
              obtain ⟨r1, r2⟩ := hr0.set (i := i + k) (d := X % B) hidx (Nat.mod_lt _ B_pos) rfl
              rw [Nat.zero_add] at r1
              rw [r1] at hW
              subst hW
              exact ⟨X / B, k + 1, _, rfl, rfl, hXB, hlt, by omega, Lib.hid hst, Lib.hid r2, Lib.hid (rowW_below hb0 (Nat.le_refl _)), by rw [rowW_size]; exact hs0⟩)
          have HROW := hrow
          have HBEL := hbel
          have kS : IntKind.u64.wrap ((dv : Int) + (c : Int)) = (S1 : Int) := by rw [← Int.natCast_add, ← hS1]; exact wrap64s (by omega)
          rw [← hdv] at h2
          obtain ⟨xm, hxm⟩ : ∃ d, d = X % B := ⟨_, rfl⟩
          obtain ⟨xq, hxq⟩ : ∃ d, d = X / B := ⟨_, rfl⟩
          have kr : ((X : Int) % 4294967296) = (xm : Int) := by rw [hxm]; rfl
          have kq : ((X : Int) / 4294967296) = (xq : Int) := by rw [hxq]; rfl
          rw [← hxm, ← hxq] at HR
          clear hval hst hlt hlx hly hV hB4 hXB
          by_cases hk : k < ny
          · have g1 : decide ((k : Int) < (ny : Int)) = true := by simp; omega
            have kP : IntKind.u64.wrap ((dx : Int) * (dy : Int)) = (P : Int) := by rw [← Int.natCast_mul, ← hP]; exact wrap64s (by omega)
            have kX : IntKind.u64.wrap ((S1 : Int) + (P : Int)) = (X : Int) := by rw [← Int.natCast_add, ← hX]; exact wrap64s bX
            obtain ⟨b1, o1, rfl, hb1, hc1x⟩ := hx.cells (by omega)
            obtain ⟨b2, o2, rfl, hb2, hc2x⟩ := hy.cells (by omega)
            have e1 : wr.cell? ⟨b1, o1 + i, none⟩ = some (dw dx) := by rw [hdx]; exact (hbel.out.cell (by exact hb1)).trans (hc1x i (by omega))
            have e2 : wr.cell? ⟨b2, o2 + k, none⟩ = some (dw dy) := by rw [hdy]; exact (hbel.out.cell (by exact hb2)).trans (hc2x k (by omega))
            clear hc1x hc2x hdx hdy hdv hX hS1 hP hzy hrow hbel hend hxm hxq bP
            go_wp2
            go_quiet (fail)
            go_wp2
            case roundEnd =>
              refine ⟨HR.out _ _ (HROW.out.drawn _) (below_dn HBEL.out _) hsz rfl, ?_⟩
              show n - ((k : Int) + 1).toNat < n - ((k : Int)).toNat
              omega
          · have g1 : decide ((k : Int) < (ny : Int)) = false := by simp; omega
            have hc0 : 0 < c := by omega
            have hXS : X = S1 := by
              have : dy = 0 := by rw [hdy]; exact hzy k (by omega)
              rw [hX, hP, this]; omega
            subst hXS
            clear hdx hdy hdv hX hS1 hP hzy hrow hbel hend hxm hxq bP
            go_wp2
            case roundEnd =>
              refine ⟨HR.out _ _ HROW.out HBEL.out hsz rfl, ?_⟩
              show n - ((k : Int) + 1).toNat < n - ((k : Int)).toNat
              omega
            all_goals (exfalso; omega)
end R3
end Go.Proofs.YtafckcmieepmaaaGreatDoor
namespace Go.Proofs.YtafckcmieepmaaaGreatDoor
namespace R3
open Go.RowKit Go.Sort D3
def bn (x : Nat) : Nat := if x = 0 then 0 else Nat.log2 x + 1
theorem bn_zero : bn 0 = 0 := rfl
theorem bn_uniq {x m : Nat} (h1 : 2 ^ m ≤ x) (h2 : x < 2 ^ (m + 1)) : bn x = m + 1 := by
  have h0 : x ≠ 0 := by have := Nat.two_pow_pos m; omega
  unfold bn
  rw [if_neg h0, (Nat.log2_eq_iff h0).2 ⟨h1, h2⟩]
theorem bn_lt (x : Nat) : x < 2 ^ bn x := by
  unfold bn; split
  · rename_i h; subst h; simp
  · exact Nat.lt_log2_self
theorem bn_le {x : Nat} (h : x ≠ 0) : 2 ^ (bn x - 1) ≤ x := by
  unfold bn; rw [if_neg h, Nat.add_sub_cancel]; exact Nat.log2_self_le h
theorem B_two : B = 2 ^ 32 := rfl
theorem bn_top {x n j : Nat} (h1 : 2 ^ j ≤ dig x n) (h2 : dig x n < 2 ^ (j + 1)) (hx : x < B ^ (n + 1)) : bn x = 32 * n + j + 1 := by
  have e : dig x n = x / B ^ n := by
    unfold dig; rw [Nat.mod_eq_of_lt]
    rw [Nat.div_lt_iff_lt_mul (B_pow_pos n), Nat.mul_comm, ← Nat.pow_succ]; exact hx
  rw [e] at h1 h2
  have eB : B ^ n = 2 ^ (32 * n) := by rw [B_two, ← Nat.pow_mul]
  rw [eB] at h1 h2
  refine bn_uniq ?_ ?_
  · rw [Nat.pow_add, Nat.mul_comm]
    exact (Nat.le_div_iff_mul_le (Nat.two_pow_pos _)).1 h1
  · rw [Nat.add_assoc, Nat.pow_add, Nat.mul_comm]
    exact (Nat.div_lt_iff_lt_mul (Nat.two_pow_pos _)).1 h2
theorem bits_next {t j X : Nat} (h : X = t / 2 ^ j) : X / 2 = t / 2 ^ (j + 1) := by rw [h, Nat.div_div_eq_div_mul, Nat.pow_succ]
set_option maxHeartbeats 4000000 in
theorem bits_any (a : Option Addr) (ca x : Nat) (w : World) (hx : DigsAt w a (nl x) ca x) (hnx : nl x ≤ 1073741824) :
    Calls Tryz.prog 108 #[.slice a (nl x) ca] w fun e w' => e = .returned (.int .i64 (bn x)) ∧ ∃ q, w.drewN q = w' := by
  obtain ⟨n, hn⟩ : ∃ n, nl x = n := ⟨_, rfl⟩
  have hlx : x < B ^ n := by rw [← hn]; exact lt_nl x
  have htop : n ≠ 0 → dig x (n - 1) ≠ 0 := by rw [← hn]; exact fun h => dig_top (fun e => h (nl_eq_zero.2 e))
  rw [hn] at hx hnx ⊢
  clear hn
  by_cases h0 : n = 0
  · subst h0
    have hx0 : x = 0 := by simpa using hlx
    subst hx0
    clear htop hlx hx
    go_enter Tryz.func108, Tryz.ntmps108
    go_wp2
    all_goals go_ret
    all_goals exact ⟨rfl, 0, rfl⟩
  · obtain ⟨k, rfl⟩ : ∃ k, n = k + 1 := ⟨n - 1, by omega⟩
    obtain ⟨b1, o1, rfl, hb1, hc1x⟩ := hx.cells (by omega)
    have e1 := hc1x k (by omega)
    obtain ⟨t, ht⟩ : ∃ t, t = dig x k := ⟨_, rfl⟩
    rw [← ht] at e1
    have ht0 := htop h0
    rw [Nat.add_sub_cancel, ← ht] at ht0
    have bt : t ≤ 4294967295 := by rw [ht]; exact dig_le ..
    have HT := Lib.hid ht
    have HX := Lib.hid hlx
    clear htop hlx hx hc1x ht h0
    go_enter Tryz.func108, Tryz.ntmps108
    go_wp2
    go_loopw [3, 4] (fun vn vx wr => ∃ j X : Nat, j ≤ 32 ∧ vn = .int .i64 ((32 * k + j : Nat) : Int) ∧ vx = .int .u32 (X : Nat) ∧ X ≤ 4294967295 ∧ Hid (X = t / 2 ^ j) ∧ Hid (j = 0 ∨ 2 ^ (j - 1) ≤ t) ∧ wr = w) (fun _ vx _ => (intOf vx).toNat)
    case atStart =>
      refine ⟨0, t, by omega, ?_, rfl, bt, by simp [Hid], Or.inl rfl, rfl⟩
      simp <;> omega
    case round =>
      obtain ⟨j, X, hj, rfl, rfl, hX, hval, hlow, rfl⟩ := hrel
      by_cases hX0 : X = 0
      · subst hX0
        have HR := Lib.hid (show bn x = 32 * k + j by
          have h1 := hval.out
          have h2 := hlow.out
          have h3 : t < 2 ^ j := by
            have := (Nat.div_eq_zero_iff).1 h1.symm
            rcases this with h | h
            · have := Nat.two_pow_pos j; omega
            · exact h
          obtain ⟨j', rfl⟩ : ∃ j', j = j' + 1 := ⟨j - 1, by
            rcases Nat.eq_zero_or_pos j with h | h
            · subst h; simp at h3; omega
            · omega⟩
          rw [Nat.add_sub_cancel] at h2
          have h4 : 2 ^ j' ≤ t := by rcases h2 with h | h; omega; exact h
          have := HT.out
          subst this
          exact bn_top h4 h3 HX.out)
        clear hval hlow
        go_wp2
        go_ret
        refine ⟨?_, 0, rfl⟩
        rw [HR.out]
        rfl
      · have hX1 : (0 : Int) < (X : Int) := by omega
        have hj32 : j < 32 := by
          have h1 := hval.out
          rcases Nat.lt_or_ge j 32 with h | h
          · exact h
          · exfalso
            have : t < 2 ^ j := Nat.lt_of_lt_of_le (by omega : t < 2 ^ 32) (Nat.pow_le_pow_right (by omega) h)
            rw [Nat.div_eq_of_lt this] at h1
            exact hX0 h1
        obtain ⟨Y, hY⟩ : ∃ Y, Y = X / 2 := ⟨_, rfl⟩
        have kY : (X : Int) / 2 = (Y : Int) := by rw [hY]; rfl
        have HN := Lib.hid (show Hid (Y = t / 2 ^ (j + 1)) ∧ Hid (j + 1 = 0 ∨ 2 ^ (j + 1 - 1) ≤ t) from by
          have h1 := hval.out
          refine ⟨by rw [hY]; exact bits_next h1, Or.inr ?_⟩
          rw [Nat.add_sub_cancel]
          have h2 : 1 ≤ t / 2 ^ j := by omega
          have := (Nat.le_div_iff_mul_le (Nat.two_pow_pos j)).1 h2
          omega)
        have hYX : Y < X := by omega
        have hY2 : Y ≤ 4294967295 := by omega
        clear hval hlow hY
        go_wp2
        case roundEnd =>
          refine ⟨⟨j + 1, Y, by omega, ?_, rfl, hY2, HN.out.1, HN.out.2, by first | trivial | rfl⟩, ?_⟩
          · congr 1
          · show ((Y : Int)).toNat < ((X : Int)).toNat
            omega
end R3
end Go.Proofs.YtafckcmieepmaaaGreatDoor
namespace Go.Proofs.YtafckcmieepmaaaGreatDoor
namespace R3
open Go.RowKit Go.Sort D3
def dwl (n v : Nat) : List Value := (List.range n).map fun i => dw (dig v i)
theorem dwl_len (n v : Nat) : (dwl n v).length = n := by simp [dwl]
theorem dwl_get {n v i : Nat} (h : i < n) : (dwl n v)[i]? = some (dw (dig v i)) := by simp [dwl, h]
theorem add_plain (b off j : Nat) : Addr.add ⟨b, off, none⟩ j = ⟨b, off + j, none⟩ := by simp [Addr.add]
theorem mk_own (w : World) (n : Nat) (hn : n ≤ 1073741824) : (mk w n).ownsRow w.heap.size 141 1 (.slice (some ⟨w.heap.size, 0, none⟩) n n) n (dwl n 0) := by
  refine ⟨by simp [dwl], .inr ⟨w.heap.size, n, (digs n 0).map dw, rfl, Nat.le_refl _, heap_alloc_new w _, Nat.le_refl _, by unfold maxLen; omega, by simp [digs], ?_⟩⟩
  apply List.ext_getElem?
  intro i
  by_cases h : i < n
  · simp [dwl, digs, h]
  · rw [List.getElem?_eq_none (by simp [digs]; omega), List.getElem?_eq_none (by simp [dwl]; omega)]
theorem wpList_append_digs {ops : Array Oper} {rest : List Oper} {o : Oper} {a : Act} {w : World} {Q : Exit → Act → World → Prop} (hg : o.guard = none) (s x : Operand)
    (hop : o.op = .call { callee := .builtin .append, args := #[s, x], argTypes := #[33, 33] })
    (base : Nat) (v : Value) (n : Nat) (xs : List Value) (hs : a.eval s = v) (hown : w.ownsRow base 141 1 v n xs) (hb : base ≤ w.heap.size) (p : Addr) (m cap Y : Nat)
    (hx : a.eval x = .slice (some p) m cap) (hl : DigsAt w (some p) m cap Y) (hm : m ≠ 0) (hn : n + m ≤ 2147483648)
    (hK : ∀ v' w', w'.ownsRow base 141 1 v' (n + m) (xs ++ dwl m Y) → Below base w w' → wpList Tryz.prog ops Q rest (a.put o.dst v') w') : wpList Tryz.prog ops Q (o :: rest) a w := by
  obtain ⟨i0, hi, hz0, hz1, hz2⟩ := info_parts info_u32
  obtain ⟨b, off, e, hlt, hc⟩ := hl.cells hm
  cases e
  refine wpList_append_own _ hg s x 33 hop base 141 i0 (.int .u32 0) 1 4 Tryz.underlying33 hi hz0 hz1 hz2 rfl (by decide) v n xs hs hown _ m cap (dwl m Y) hx (by simp [dwl]) ?_ ?_ (by unfold maxLen; omega) (by omega) hb ?_
  · intro j u hj
    have hjl : j < m := by
      have := (List.getElem?_eq_some_iff.1 hj).1
      simpa [dwl] using this
    rw [dwl_get hjl] at hj
    rw [← hj]
    rw [add_plain]; exact hc j hjl
  · intro u hu
    obtain ⟨z, _, rfl⟩ := List.mem_map.1 hu
    rfl
  · intro v' w' h1 h2 _
    exact hK v' w' h1 ((Below.refl _ _).grown h2 hb (fun j hj => (hown.lt j hj).1))
theorem dig_shift {x m i : Nat} : dig (x * B ^ m) (m + i) = dig x i := by
  unfold dig
  rw [Nat.pow_add, Nat.mul_comm x, Nat.mul_div_mul_left _ _ (B_pow_pos m)]
theorem dig_shift_low {x m i : Nat} (h : i < m) : dig (x * B ^ m) i = 0 := by
  unfold dig
  obtain ⟨k, rfl⟩ : ∃ k, m = i + (k + 1) := ⟨m - i - 1, by omega⟩
  rw [Nat.pow_add, ← Nat.mul_assoc, Nat.mul_comm x, Nat.mul_assoc, Nat.mul_div_cancel_left _ (B_pow_pos i), Nat.pow_succ, ← Nat.mul_assoc]
  exact Nat.mul_mod_left ..
theorem dwl_shift (n m x : Nat) : dwl m 0 ++ dwl n x = dwl (m + n) (x * B ^ m) := by
  apply List.ext_getElem?
  intro i
  rcases Nat.lt_or_ge i m with h | h
  · rw [List.getElem?_append_left (by rw [dwl_len]; exact h), dwl_get h, dwl_get (by omega), dig_shift_low h, dig_zero]
  · obtain ⟨k, rfl⟩ : ∃ k, i = m + k := ⟨i - m, by omega⟩
    rw [List.getElem?_append_right (by rw [dwl_len]; omega), dwl_len, Nat.add_sub_cancel_left]
    by_cases hk : k < n
    · rw [dwl_get hk, dwl_get (by omega), dig_shift]
    · rw [List.getElem?_eq_none (by rw [dwl_len]; omega), List.getElem?_eq_none (by rw [dwl_len]; omega)]
theorem own_digs {w : World} {base n v : Nat} {u : Value} (h : w.ownsRow base 141 1 u n (dwl n v)) (hn : n ≠ 0) (hv : v < B ^ n) : ∃ g cap, u = .slice (some ⟨g, 0, none⟩) n cap ∧ DigsAt w (some ⟨g, 0, none⟩) n cap v := by
  obtain ⟨g, cap, hu, hb, hlt⟩ := h.form (by omega)
  subst hu
  refine ⟨g, cap, rfl, hv, ?_, fun _ => ⟨g, 0, rfl, hlt, fun i hi => by rw [← add_plain]; exact h.cells (g := g) rfl i _ (by simp [dwl, hi])⟩⟩
  · rcases h.2 with hh | ⟨g', cap', cur, e, _, _, hle, _⟩
    · exact absurd hh.2 hn
    · injection e with _ _ e2
      subst e2
      exact hle
theorem nl_shift {x m : Nat} (hx : x ≠ 0) : nl (x * B ^ m) = nl x + m := by
  obtain ⟨k, hk⟩ : ∃ k, nl x = k + 1 := ⟨nl x - 1, by have := nl_pos hx; omega⟩
  rw [hk]
  have h1 := lt_nl x
  have h2 : B ^ k ≤ x := by
    rcases Nat.lt_or_ge x (B ^ k) with h | h
    · have := nl_le h; omega
    · exact h
  rw [hk] at h1
  rw [show k + 1 + m = (k + m) + 1 by omega]
  refine nl_eq ?_ ?_
  · rw [show k + m + 1 = k + 1 + m by omega, Nat.pow_add]; exact Nat.mul_lt_mul_of_pos_right h1 (B_pow_pos m)
  · rw [Nat.pow_add]; exact Nat.mul_le_mul_right _ h2
theorem shift_eq (x n : Nat) : x * B ^ (n / 32) * 2 ^ (n % 32) = x * 2 ^ n := by
  rw [B_two, ← Nat.pow_mul, Nat.mul_assoc, ← Nat.pow_add, Nat.div_add_mod]
set_option maxHeartbeats 4000000 in
theorem shifted_any (a : Option Addr) (ca x n : Nat) (w : World) (hx : DigsAt w a (nl x) ca x) (hx0 : x ≠ 0) (hnx : nl x ≤ 268435456) (hn : n ≤ 4294967296) :
    Calls Tryz.prog 109 #[.slice a (nl x) ca, .int .i64 n] w (Gives w (x * 2 ^ n)) := by
  obtain ⟨m, hm⟩ : ∃ m, m = n / 32 := ⟨_, rfl⟩
  obtain ⟨r, hr⟩ : ∃ r, r = n % 32 := ⟨_, rfl⟩
  have hr32 : r < 32 := by omega
  have hm27 : m ≤ 134217728 := by omega
  have km : (n : Int) / 32 = (m : Int) := by rw [hm]; rfl
  have kr : (n : Int) % 32 = (r : Int) := by rw [hr]; rfl
  have hE := Lib.hid (shift_eq x n)
  rw [← hm, ← hr] at hE
  have hmk := fun w => mk_run (m : Int) m rfl (by omega) w
  have hown := mk_own w m (by omega)
  have hB := mk_below w m
  have hx2 := hx.mono hB
  have hnl := nl_shift (m := m) hx0
  have hp := nl_pos hx0
  obtain ⟨b1, o1, rfl, hb1, hc1x⟩ := hx.cells (by omega)
  have hs : w.heap.size ≤ (mk w m).heap.size := by rw [mk_size]; omega
  clear hm hr hc1x
  have HOWN := hown
  go_enter Tryz.func109, Tryz.ntmps109
  go_wp2_with (refine wpList_append_digs rfl _ _ rfl w.heap.size _ m _ rfl hown hs _ (nl x) ca x rfl hx2 (by omega) (by omega) ?_)
  intro v' w' h1 h2
  rw [dwl_shift] at h1
  have hlt : x * B ^ m < B ^ (m + nl x) := by rw [Nat.add_comm, ← hnl]; exact lt_nl _
  obtain ⟨g, cap, rfl, hD⟩ := own_digs h1 (by omega) hlt
  have HD := Lib.hid hD
  have HB := Lib.hid (hB.trans h2)
  clear h1 h2 hlt hD hx2 hown HOWN hx hB
  obtain ⟨P, hP⟩ : ∃ P, P = 2 ^ r := ⟨_, rfl⟩
  have hP2 : P ≤ 2147483648 := by rw [hP]; exact Nat.pow_le_pow_right (by omega) (by omega : r ≤ 31)
  have hnP : nl P ≤ 2 := nl_le (by unfold B; omega)
  have kP : IntKind.u64.wrap ((2 : Int) ^ r) = (P : Int) := by
    rw [hP, show (2 : Int) ^ r = ((2 ^ r : Nat) : Int) by simp]
    rw [← hP]
    exact wrap64s (by omega)
  rw [← hP] at hE
  clear hP
  go_wp2_with fail
  refine (nat_any P (by omega) w').mono ?_
  rintro e w2 ⟨a2, c2, rfl, hd2, hb2, -⟩
  have HPR := Lib.hid (show Calls Tryz.prog 86 #[.slice (some ⟨g, 0, none⟩) (m + nl x) cap, .slice a2 (nl P) c2] w2 (Gives w2 (x * B ^ m * P)) from by
    have h3 := HD.out.mono hb2
    rw [show m + nl x = nl (x * B ^ m) by omega] at h3 ⊢
    exact prod_any _ _ cap c2 (x * B ^ m) P w2 h3 hd2 (by omega) (by omega))
  have HB2 := Lib.hid hb2
  clear hb2 hd2
  go_wp2_with fail
  refine HPR.out.mono ?_
  rintro e w3 ⟨a3, c3, rfl, hd3, hb3, hn3⟩
  have HN3 := Lib.hid (fun p h => Nat.le_trans (Nat.le_trans HB.out.size HB2.out.size) (hn3 p h))
  rw [hE.out] at hd3 ⊢
  have HD3 := Lib.hid hd3
  have HB3 := Lib.hid (HB.out.trans ((HB2.out.mono HB.out.size).trans (hb3.mono (Nat.le_trans HB.out.size HB2.out.size))))
  clear hd3 hb3 hn3
  go_wp2_with fail
  go_ret
  exact ⟨_, _, rfl, HD3.out, HB3.out, HN3.out⟩
end R3
end Go.Proofs.YtafckcmieepmaaaGreatDoor
namespace Go.Proofs.YtafckcmieepmaaaGreatDoor
namespace R3
open Go.RowKit Go.Sort D3
theorem bn_le_nl (x : Nat) : bn x ≤ 32 * nl x := by
  by_cases h : x = 0
  · subst h; simp [bn_zero]
  · have h1 := bn_le h
    have h2 := lt_nl x
    rw [B_pow_two] at h2
    have h3 : 2 ^ (bn x - 1) < 2 ^ (32 * nl x) := Nat.lt_of_le_of_lt h1 h2
    have := (Nat.pow_lt_pow_iff_right (by omega : 1 < 2)).1 h3
    omega
theorem bn_pos {x : Nat} (h : x ≠ 0) : 0 < bn x := by unfold bn; rw [if_neg h]; omega
theorem q_start {x y n : Nat} (hy : y ≠ 0) (h : bn x = bn y + n) : x < y * 2 ^ (n + 1) := by
  have h1 := bn_lt x
  have h2 := bn_le hy
  have h3 := bn_pos hy
  rw [h, show bn y + n = (bn y - 1) + (n + 1) by omega, Nat.pow_add] at h1
  exact Nat.lt_of_lt_of_le h1 (Nat.mul_le_mul_right _ h2)
theorem q_top {x y n : Nat} (h : bn x = bn y + n) : y * 2 ^ n < B ^ nl x := by
  have h1 := bn_lt y
  have h2 := bn_le_nl x
  rw [B_pow_two]
  refine Nat.lt_of_lt_of_le (Nat.mul_lt_mul_of_pos_right h1 (Nat.two_pow_pos n)) ?_
  rw [← Nat.pow_add, ← h]
  exact Nat.pow_le_pow_right (by omega) h2
theorem q_small {x y : Nat} (h : bn x < bn y) : x < y := by
  have hy : y ≠ 0 := by rintro rfl; simp [bn_zero] at h
  have h1 := bn_lt x
  have h2 := bn_le hy
  exact Nat.lt_of_lt_of_le h1 (Nat.le_trans (Nat.pow_le_pow_right (by omega) (by omega)) h2)
theorem q_bit {V j : Nat} (h : V % 2 ^ (j + 1) = 0) : dig V (j / 32) + 2 ^ (j % 32) < B ∧ put V (j / 32) (dig V (j / 32) + 2 ^ (j % 32)) = V + 2 ^ j := by
  obtain ⟨k, hk⟩ : ∃ k, k = j / 32 := ⟨_, rfl⟩
  obtain ⟨r, hr⟩ : ∃ r, r = j % 32 := ⟨_, rfl⟩
  have hj : j = 32 * k + r := by omega
  have hr32 : r < 32 := by omega
  rw [← hk, ← hr]
  clear hk hr
  subst hj
  constructor
  · obtain ⟨c, rfl⟩ := Nat.dvd_of_mod_eq_zero h
    have e : dig (2 ^ (32 * k + r + 1) * c) k = 2 ^ (r + 1) * (c % 2 ^ (31 - r)) := by
      unfold dig
      rw [B_pow_two, show 32 * k + r + 1 = 32 * k + (r + 1) by omega, Nat.pow_add, Nat.mul_assoc, Nat.mul_div_cancel_left _ (Nat.two_pow_pos _), B_two]
      rw [show (2 : Nat) ^ 32 = 2 ^ (r + 1) * 2 ^ (31 - r) by rw [← Nat.pow_add, show r + 1 + (31 - r) = 32 by omega], Nat.mul_mod_mul_left]
    rw [e]
    have h1 : c % 2 ^ (31 - r) + 1 ≤ 2 ^ (31 - r) := Nat.mod_lt _ (Nat.two_pow_pos _)
    have h2 := Nat.mul_le_mul_left (2 ^ (r + 1)) h1
    rw [← Nat.pow_add, show r + 1 + (31 - r) = 32 by omega, ← B_two, Nat.mul_add, Nat.mul_one] at h2
    have h3 : 2 ^ r < 2 ^ (r + 1) := Nat.pow_lt_pow_right (by omega) (by omega)
    omega
  · have h1 := put_add V k (dig V k + 2 ^ r)
    rw [Nat.add_mul] at h1
    have h2 : 2 ^ r * B ^ k = 2 ^ (32 * k + r) := by rw [B_pow_two, ← Nat.pow_add, Nat.add_comm]
    omega
structure QI (x y n j V A D : Nat) : Prop where
  eq : x = V * y + A
  lt : A < y * 2 ^ j
  div : V % 2 ^ j = 0
  small : V < 2 ^ (n + 1)
  half : D = y * 2 ^ j / 2
  dl : D ≤ y * 2 ^ n
theorem QI.d {x y n j V A D : Nat} (h : QI x y n (j + 1) V A D) : D = y * 2 ^ j := by
  rw [h.half, Nat.pow_succ, ← Nat.mul_assoc, Nat.mul_div_cancel _ (by omega)]
theorem QI.div2 {x y n j V A D : Nat} (h : QI x y n (j + 1) V A D) : V % 2 ^ j = 0 := by
  have := h.div
  exact Nat.mod_eq_zero_of_dvd (Nat.dvd_trans (Nat.pow_dvd_pow 2 (Nat.le_succ j)) (Nat.dvd_of_mod_eq_zero this))
theorem QI.no {x y n j V A D : Nat} (h : QI x y n (j + 1) V A D) (hA : A < D) : QI x y n j V A (D / 2) :=
  ⟨h.eq, by rw [← h.d]; exact hA, h.div2, h.small, by rw [h.d], Nat.le_trans (Nat.div_le_self _ _) h.dl⟩
theorem QI.yes {x y n j V A D : Nat} (h : QI x y n (j + 1) V A D) (hA : D ≤ A) (hj : j ≤ n) : QI x y n j (V + 2 ^ j) (A - D) (D / 2) := by
  refine ⟨?_, ?_, ?_, ?_, by rw [h.d], Nat.le_trans (Nat.div_le_self _ _) h.dl⟩
  · have h1 := h.eq
    have h2 := h.d
    rw [Nat.add_mul, Nat.mul_comm (2 ^ j), ← h2]
    omega
  · have h1 := h.lt
    have h2 := h.d
    rw [Nat.pow_succ, ← Nat.mul_assoc] at h1
    omega
  · rw [Nat.add_mod_right]; exact h.div2
  · obtain ⟨c, hc⟩ := Nat.dvd_of_mod_eq_zero h.div
    have h1 := h.small
    rw [hc, show n + 1 = (j + 1) + (n - j) by omega, Nat.pow_add 2 (j + 1) (n - j)] at h1
    have h2 : c < 2 ^ (n - j) := Nat.lt_of_mul_lt_mul_left h1
    have h3 := Nat.mul_le_mul_left (2 ^ (j + 1)) (Nat.succ_le_of_lt h2)
    rw [← Nat.pow_add, show j + 1 + (n - j) = n + 1 by omega, Nat.mul_succ, ← hc] at h3
    have h4 : 2 ^ j < 2 ^ (j + 1) := Nat.pow_lt_pow_right (by omega) (by omega)
    omega
theorem QI.done {x y n V A D : Nat} (h : QI x y n 0 V A D) : V = x / y ∧ A = x % y := by
  have h1 := h.lt
  rw [Nat.pow_zero, Nat.mul_one] at h1
  have h2 := h.eq
  subst h2
  constructor
  · rw [Nat.mul_comm, Nat.mul_add_div (by omega), Nat.div_eq_of_lt h1, Nat.add_zero]
  · rw [Nat.mul_comm, Nat.mul_add_mod, Nat.mod_eq_of_lt h1]
theorem QI.start {x y n : Nat} (hy : y ≠ 0) (h : bn x = bn y + n) : QI x y n (n + 1) 0 x (y * 2 ^ n) :=
  ⟨by simp, q_start hy h, by simp, Nat.two_pow_pos _, by rw [Nat.pow_succ, ← Nat.mul_assoc, Nat.mul_div_cancel _ (by omega)], Nat.le_refl _⟩
theorem QI.le {x y n j V A D : Nat} (h : QI x y n j V A D) : A ≤ x := by have := h.eq; omega
theorem Row.mono {w w' : World} {b off n v B : Nat} (h : Row w b off n v) (hb : Below B w w') (hl : b < B) : Row w' b off n v := by
  intro j hj
  obtain ⟨h1, h2⟩ := h j hj
  exact ⟨(hb.cell (by exact hl)).trans h1, (hb.frozen (by exact hl)).trans h2⟩
def Apart (a : Option Addr) (m q : Nat) : Prop := m ≠ 0 → ∀ p, a = some p → p.block ≠ q
theorem DigsAt.setOther {w : World} {a : Option Addr} {m cap Y q i : Nat} {v : Value} (h : DigsAt w a m cap Y) (hp : Apart a m q) : DigsAt (w.setCell ⟨q, i, none⟩ v) a m cap Y :=
  ⟨h.lt, h.fit, fun hm => by
    obtain ⟨b, off, e, hlt, hc⟩ := h.cells hm
    refine ⟨b, off, e, by simpa using hlt, fun j hj => ?_⟩
    rw [World.cell?_setCell_other _ _ _ _ (by intro hh; injection hh with h1; exact hp hm _ e h1.symm)]
    exact hc j hj⟩
theorem Apart.low {w : World} {a : Option Addr} {m cap Y : Nat} (h : DigsAt w a m cap Y) : Apart a m w.heap.size := fun hm p hp => by
  obtain ⟨b, off, e, hlt, _⟩ := h.cells hm
  rw [hp] at e
  cases e
  exact Nat.ne_of_lt hlt
theorem Apart.new {a : Option Addr} {m n q : Nat} (h : ∀ p, a = some p → n ≤ p.block) (hq : q < n) : Apart a m q := fun _ p hp => by
  have := h p hp; omega
def GivesQ (w : World) (q r : Nat) (e : Ending) (w' : World) : Prop :=
  ∃ a c b d, e = .returned (.tuple #[.slice a (nl q) c, .slice b (nl r) d]) ∧ DigsAt w' a (nl q) c q ∧ DigsAt w' b (nl r) d r ∧ Below w.heap.size w w'
set_option maxHeartbeats 4000000 in
theorem quotient_any (a b : Option Addr) (ca cb x y : Nat) (w : World) (hx : DigsAt w a (nl x) ca x) (hy : DigsAt w b (nl y) cb y) (hy0 : y ≠ 0) (hnx : nl x ≤ 134217728) (hny : nl y ≤ 134217728) :
    Calls Tryz.prog 78 #[.slice a (nl x) ca, .slice b (nl y) cb] w (GivesQ w (x / y) (x % y)) := by
  by_cases h1 : nl y = 1
  · have hyB : y < B := by have := lt_nl y; rwa [h1, Nat.pow_one] at this
    obtain ⟨b1, o1, rfl, hb1, hc1y⟩ := hy.cells (by omega)
    have e1 := hc1y 0 (by omega)
    have hd0 : dig y 0 = y := by rw [dig_one]; exact Nat.mod_eq_of_lt hyB
    rw [hd0, Nat.add_zero] at e1
    have HC := Lib.hid (byDigit_any a ca x y w hx (by omega) (by omega) hyB)
    have hry : x % y < 18446744073709551616 := by have := Nat.mod_lt x (by omega : 0 < y); unfold B at hyB; omega
    clear hc1y hd0 hx hy hyB
    rw [h1]
    go_enter Tryz.func78, Tryz.ntmps78
    go_wp2_with fail
    refine HC.out.mono ?_
    rintro e w1 ⟨a2, c2, rfl, hd2, hb2⟩
    obtain ⟨r, hr⟩ : ∃ r, r = x % y := ⟨_, rfl⟩
    rw [← hr] at hry ⊢
    obtain ⟨q, hq⟩ : ∃ q, q = x / y := ⟨_, rfl⟩
    rw [← hq] at hd2 ⊢
    have HEQ := Lib.hid (And.intro hq hr)
    have HN := Lib.hid (nat_any r hry w1)
    have kW := wrap64s hry
    have HD2 := Lib.hid hd2
    have HB2 := Lib.hid hb2
    clear hd2 hb2 HC hry hr hq e1 h1 hnx hny hy0 hb1
    go_wp2_with fail
    refine HN.out.mono ?_
    rintro e w2 ⟨a3, c3, rfl, hd3, hb3, -⟩
    have HD3 := Lib.hid hd3
    have HB3 := Lib.hid hb3
    clear hd3 hb3
    go_wp2_with fail
    go_ret2
    obtain ⟨hq, hr⟩ := HEQ.out
    rw [← hq, ← hr]
    exact ⟨_, _, _, _, rfl, HD2.out.mono HB3.out, HD3.out, HB2.out.trans (HB3.out.mono HB2.out.size)⟩
  · have HBX := Lib.hid (bits_any a ca x w hx (by omega))
    have HBY := fun q => Lib.hid (bits_any b cb y (w.drewN q) (hy.drawn q) (by omega))
    have hbx := bn_le_nl x
    have hby := bn_le_nl y
    have g1 : ((nl y : Int) == 1) = false := by simp; omega
    obtain ⟨kx, hkx⟩ : ∃ k, k = bn x := ⟨_, rfl⟩
    obtain ⟨ky, hky⟩ : ∃ k, k = bn y := ⟨_, rfl⟩
    by_cases hlt : kx < ky
    · have hxy := q_small (x := x) (y := y) (by omega)
      rw [Nat.div_eq_of_lt hxy, Nat.mod_eq_of_lt hxy]
      have hneg : (kx : Int) - (ky : Int) < 0 := by omega
      rw [← hkx] at HBX hbx
      rw [← hky] at HBY hby
      have HX := Lib.hid hx
      clear hkx hky hxy hlt hx hy h1
      go_enter Tryz.func78, Tryz.ntmps78
      go_wp2_with fail
      refine HBX.out.mono ?_
      rintro e w1 ⟨rfl, q1, rfl⟩
      go_wp2_with fail
      refine (HBY q1).out.mono ?_
      rintro e w2 ⟨rfl, q2, rfl⟩
      go_wp2_with fail
      go_ret2
      have hB : Below w.heap.size w ((w.drewN (q1 + q2)).alloc (.cells #[] 141)) := (below_dn (Below.refl _ _) _).alloc (Nat.le_refl _) _
      exact ⟨_, 0, a, ca, rfl, DigsAt.zero .., HX.out.mono hB, hB⟩
    · obtain ⟨n, hn⟩ : ∃ n, n = kx - ky := ⟨_, rfl⟩
      have hsub : (kx : Int) - (ky : Int) = (n : Int) := by omega
      have hbn : bn x = bn y + n := by omega
      rw [← hkx] at HBX hbx
      rw [← hky] at HBY hby
      have hN : n ≤ 4294967296 := by omega
      obtain ⟨m, hm⟩ : ∃ m, m = n / 32 + 1 := ⟨_, rfl⟩
      have hm31 : m ≤ 134217729 := by omega
      have hnm : n < 32 * m := by omega
      have km : (n : Int) / 32 + 1 = (m : Int) := by rw [hm]; rfl
      have hmk := fun w => mk_run (m : Int) m rfl (by omega) w
      have hn0 : ¬ ((n : Int) < 0) := by omega
      have HSH := fun w' h => Lib.hid (shifted_any b cb y n w' h hy0 (by omega) hN)
      have HTOP := Lib.hid (q_top hbn)
      have HST := Lib.hid (QI.start hy0 hbn)
      have HX := Lib.hid hx
      have HY := Lib.hid hy
      clear hkx hky hlt hx hy h1 hbn hm hn
      go_enter Tryz.func78, Tryz.ntmps78
      go_wp2_with fail
      refine HBX.out.mono ?_
      rintro e w1 ⟨rfl, q1, rfl⟩
      go_wp2_with fail
      refine (HBY q1).out.mono ?_
      rintro e w2 ⟨rfl, q2, h2⟩
      have hs2 : w2.heap.size = w.heap.size := by rw [← h2]; rfl
      have HB2 := Lib.hid (show Below w.heap.size w w2 by rw [← h2]; exact below_dn (below_dn (Below.refl _ _) _) _)
      have HX2 := Lib.hid (show DigsAt w2 a (nl x) ca x by rw [← h2]; exact (HX.out.drawn _).drawn _)
      have HY2 := Lib.hid (show DigsAt w2 b (nl y) cb y by rw [← h2]; exact (HY.out.drawn _).drawn _)
      clear h2 HX HY HBX HBY hbx hby
      have HR2 := Lib.hid (mk_row w2 m)
      have HM2 := Lib.hid (mk_below w2 m)
      have hz2 : w2.heap.size < (mk w2 m).heap.size := by rw [mk_size]; omega
      go_wp2_with fail
      refine (HSH _ (HY2.out.mono HM2.out)).out.mono ?_
      rintro e w3 ⟨a3, c3, rfl, hd3, hb3, hn3⟩
      have HN3 := Lib.hid (Apart.new (m := nl (y * 2 ^ n)) hn3 hz2)
      have HD3 := Lib.hid hd3
      have HB3 := Lib.hid (HM2.out.trans (hb3.mono (Nat.le_of_lt hz2)))
      have HR3 := Lib.hid (HR2.out.mono hb3 hz2)
      have hz3 : w2.heap.size < w3.heap.size := Nat.lt_of_lt_of_le hz2 hb3.size
      clear hd3 hb3 hn3 HSH HR2 HM2 hz2 hmk km hsub
      go_wp2_with fail
      go_loopw [0, 10, 11] (fun va vd vi wr => ∃ (j A V D : Nat) (aa : Option Addr) (cA : Nat) (ad : Option Addr) (cD : Nat), j ≤ n + 1 ∧ vi = .int .i64 ((j : Int) - 1) ∧ va = .slice aa (nl A) cA ∧ vd = .slice ad (nl D) cD ∧ Hid (QI x y n j V A D) ∧ Hid (DigsAt wr aa (nl A) cA A) ∧ Hid (DigsAt wr ad (nl D) cD D) ∧ Hid (Row wr w2.heap.size 0 m V) ∧ Hid (Below w2.heap.size w2 wr) ∧ Hid (Apart aa (nl A) w2.heap.size ∧ Apart ad (nl D) w2.heap.size) ∧ w2.heap.size < wr.heap.size) (fun _ _ vi _ => (intOf vi + 1).toNat)
      case atStart =>
        refine ⟨n + 1, x, 0, y * 2 ^ n, a, ca, a3, c3, by omega, ?_, rfl, rfl, HST, Lib.hid (HX2.out.mono HB3.out), HD3, HR3, HB3, Lib.hid ⟨Apart.low HX2.out, HN3.out⟩, hz3⟩
        congr 1
        omega
      case round =>
        clear HST HX2 HY2 HD3 HB3 HR3 hz3 hn0
        obtain ⟨j, A, V, D, aa, cA, ad, cD, hj, rfl, rfl, rfl, hQ, hA, hD, hR, hB, hP, hz⟩ := hrel
        by_cases hj0 : j = 0
        · subst hj0
          obtain ⟨eV, eA⟩ := hQ.out.done
          have hV : V < B ^ m := by
            rw [B_pow_two]
            exact Nat.lt_of_lt_of_le hQ.out.small (Nat.pow_le_pow_right (by omega) (by omega))
          have hDg := hR.out.digs (cap := m) hV hz (Nat.le_refl _)
          have HC := Lib.hid (cut_any w2.heap.size 0 m m V _ hDg (by omega))
          have HDg := Lib.hid hDg
          have HE := Lib.hid (And.intro eV eA)
          clear hQ eV eA hV hDg hj hD hR HTOP hN hnm g1
          have hz0 : ((0 : Nat) : Int) - 1 = -1 := by omega
          rw [hz0]
          clear hz0
          rw [hs2] at HC HDg
          have HS := Lib.hid (And.intro hs2 hz)
          generalize nl (y * 2 ^ n) = zz
          clear hs2 hz hm31 hnx hny hy0
          go_wp2_with fail
          refine HC.out.mono ?_
          rintro e w5 ⟨rfl, rfl⟩
          go_wp2_with fail
          go_ret2
          obtain ⟨eV, eA⟩ := HE.out
          rw [← eV, ← eA]
          exact ⟨_, _, _, _, rfl, HDg.out.shrink, hA.out, HB2.out.trans (hB.out.mono (Nat.le_of_eq HS.out.1.symm))⟩
        · obtain ⟨i, rfl⟩ : ∃ i, j = i + 1 := ⟨j - 1, by omega⟩
          have hi0 : (0 : Int) ≤ ((i + 1 : Nat) : Int) - 1 := by omega
          have hi1 : ((i + 1 : Nat) : Int) - 1 = (i : Int) := by omega
          have hin : i ≤ n := by omega
          have hAx : nl A ≤ nl x := nl_mono hQ.out.le
          have hDx : nl D ≤ nl x := nl_le (Nat.lt_of_le_of_lt hQ.out.dl HTOP.out)
          have HO := Lib.hid (order_any aa ad cA cD A D wr hA.out hD.out (by omega))
          rw [hi1]
          clear hj0 hj hi0 hi1
          by_cases hge : D ≤ A
          · have g2 : (0 : Int) ≤ cmpN A D := by unfold cmpN; split; omega; split <;> omega
            obtain ⟨k, hk⟩ : ∃ k, k = i / 32 := ⟨_, rfl⟩
            obtain ⟨r, hr⟩ : ∃ r, r = i % 32 := ⟨_, rfl⟩
            have hkm : k < m := by omega
            have hkm2 : (k : Int) < (m : Int) := by omega
            have hr32 : r < 32 := by omega
            have ki : (i : Int) / 32 = (k : Int) := by rw [hk]; rfl
            have kr : (i : Int) % 32 = (r : Int) := by rw [hr]; rfl
            obtain ⟨s1, s2⟩ := q_bit hQ.out.div
            rw [← hk, ← hr] at s1 s2
            obtain ⟨P, hPe⟩ : ∃ P, P = 2 ^ r := ⟨_, rfl⟩
            have hP2 : P ≤ 2147483648 := by rw [hPe]; exact Nat.pow_le_pow_right (by omega) (by omega : r ≤ 31)
            have kP : IntKind.u32.wrap ((2 : Int) ^ r) = (P : Int) := by
              rw [hPe, show (2 : Int) ^ r = ((2 ^ r : Nat) : Int) by simp, ← hPe]
              exact wrap32s (by unfold B; omega)
            obtain ⟨dv, hdv⟩ : ∃ d, d = dig V k := ⟨_, rfl⟩
            rw [← hPe, ← hdv] at s1 s2
            obtain ⟨S, hS⟩ : ∃ S, S = dv + P := ⟨_, rfl⟩
            rw [← hS] at s1 s2
            have kS : IntKind.u32.wrap ((dv : Int) + (P : Int)) = (S : Int) := by rw [← Int.natCast_add, ← hS]; exact wrap32s s1
            have HDF := fun q => Lib.hid (diff_any aa ad cA cD A D (wr.drewN q) (hA.out.drawn q) (hD.out.drawn q) (by omega) hge)
            have HQ := Lib.hid (hQ.out.yes hge hin)
            have HSET := Lib.hid (And.intro s1 s2)
            have HDV := Lib.hid hdv
            clear hQ hge hk hr hPe hS s1 s2 hdv
            go_wp2_with fail
            refine HO.out.mono ?_
            rintro e w5 ⟨rfl, q5, rfl⟩
            go_wp2_with fail
            refine (HDF _).out.mono ?_
            rintro e w6 ⟨a6, c6, rfl, hd6, hb6, hn6⟩
            have HN6 := Lib.hid (Apart.new (m := nl (A - D)) (n := wr.heap.size) hn6 hz)
            have HD6 := Lib.hid hd6
            have HB6 := Lib.hid (Below.trans (below_dn (Below.refl wr.heap.size wr) q5) hb6)
            have HR6 := Lib.hid (hR.out.mono HB6.out hz)
            have h2 : w6.cell? ⟨w.heap.size, k, none⟩ = some (dw dv) := by
              have := HR6.out.cell (u := V) hkm
              rw [HR6.out.self, Nat.zero_add, hs2, ← HDV.out] at this
              exact this
            have h3 : w6.frozen? ⟨w.heap.size, k, none⟩ = false := by
              have := HR6.out.free (u := V) hkm
              rw [HR6.out.self, Nat.zero_add, hs2] at this
              exact this
            have HW := Lib.hid (show ∀ W, W = w6.setCell ⟨w.heap.size, k, none⟩ (dw S) → Row W w2.heap.size 0 m (V + 2 ^ i) ∧ DigsAt W a6 (nl (A - D)) c6 (A - D) ∧ DigsAt W ad (nl D) cD D ∧ Below w2.heap.size w2 W ∧ w2.heap.size < W.heap.size from by
              intro W hW
              subst hW
              have hz6 := HB6.out.size
              rw [← hs2]
              refine ⟨?_, hd6.setOther HN6.out, (hD.out.mono HB6.out).setOther hP.out.2, (hB.out.trans (HB6.out.mono (Nat.le_of_lt hz))).setCell (Nat.le_refl _) _, by simp; omega⟩
              obtain ⟨r1, r2⟩ := HR6.out.set (i := k) (d := S) hkm HSET.out.1 HSET.out.2
              rw [Nat.zero_add] at r1
              rw [r1]
              exact r2)
            clear hd6 hb6 hn6
            go_wp2_with fail
            obtain ⟨W, hW⟩ : ∃ W, W = w6.setCell ⟨w.heap.size, k, none⟩ (.int .u32 (S : Int)) := ⟨_, rfl⟩
            rw [← hW]
            obtain ⟨v1, v2, v3, v4, v5⟩ := HW.out W hW
            refine (halved_any ad cD D W v3 (by omega)).mono ?_
            rintro e w7 ⟨a7, c7, rfl, hd7, hb7, hn7⟩
            have HD7 := Lib.hid hd7
            have HB7 := Lib.hid hb7
            have HN7 := Lib.hid (Apart.new (m := nl (D / 2)) hn7 v5)
            have V1 := Lib.hid v1
            have V2 := Lib.hid v2
            have V4 := Lib.hid v4
            clear hd7 hb7 hn7 hW v1 v2 v3 v4 h2 h3
            go_wp2_with fail
            case roundEnd =>
              refine ⟨⟨i, A - D, V + 2 ^ i, D / 2, a6, c6, a7, c7, by omega, rfl, rfl, rfl, HQ, Lib.hid (V2.out.mono HB7.out), HD7, Lib.hid (V1.out.mono HB7.out v5), Lib.hid (V4.out.trans (HB7.out.mono (Nat.le_of_lt v5))), Lib.hid ⟨HN6.out, HN7.out⟩, Nat.lt_of_lt_of_le v5 HB7.out.size⟩, ?_⟩
              show ((i : Int) - 1 + 1).toNat < ((i : Int) + 1).toNat
              omega
          · have g2 : ¬ (0 : Int) ≤ cmpN A D := by rw [cmpN_lt (by omega)]; omega
            have HH := fun q => Lib.hid (halved_any ad cD D (wr.drewN q) (hD.out.drawn q) (by omega))
            have HQ := Lib.hid (hQ.out.no (by omega))
            clear hQ hge
            go_wp2_with fail
            refine HO.out.mono ?_
            rintro e w5 ⟨rfl, q5, rfl⟩
            go_wp2_with fail
            refine (HH _).out.mono ?_
            rintro e w6 ⟨a6, c6, rfl, hd6, hb6, hn6⟩
            have HD6 := Lib.hid hd6
            have HB6 := Lib.hid (Below.trans (below_dn (Below.refl wr.heap.size wr) q5) hb6)
            have HN6 := Lib.hid (Apart.new (m := nl (D / 2)) (n := wr.heap.size) hn6 hz)
            clear hd6 hb6 hn6
            go_wp2_with fail
            case roundEnd =>
              refine ⟨⟨i, A, V, D / 2, aa, cA, a6, c6, by omega, rfl, rfl, rfl, HQ, Lib.hid (hA.out.mono HB6.out), HD6, Lib.hid (hR.out.mono HB6.out hz), Lib.hid (hB.out.trans (HB6.out.mono (Nat.le_of_lt hz))), Lib.hid ⟨hP.out.1, HN6.out⟩, Nat.lt_of_lt_of_le hz HB6.out.size⟩, ?_⟩
              show ((i : Int) - 1 + 1).toNat < ((i : Int) + 1).toNat
              omega
end R3
end Go.Proofs.YtafckcmieepmaaaGreatDoor
namespace Go.Proofs.YtafckcmieepmaaaGreatDoor
namespace R3
open Go.RowKit Go.Sort D3
def numFrom (w : World) (b off : Nat) : Nat → Nat
  | 0 => 0
  | n + 1 => numFrom w b off n + (match w.cell? ⟨b, off + n, none⟩ with | some v => (intOf v).toNat | none => 0) * B ^ n
def numAt (w : World) : Value → Nat
  | .slice (some ⟨b, off, _⟩) n _ => numFrom w b off n
  | _ => 0
theorem numFrom_eq {w : World} {b off Y : Nat} : ∀ {n : Nat}, (∀ i, i < n → w.cell? ⟨b, off + i, none⟩ = some (dw (dig Y i))) → numFrom w b off n = Y % B ^ n
  | 0, _ => by simp [numFrom, Nat.mod_one]
  | n + 1, h => by
    rw [numFrom, numFrom_eq (n := n) (fun i hi => h i (by omega)), h n (by omega), mod_succ]
    rfl
theorem DigsAt.num {w : World} {a : Option Addr} {m cap Y : Nat} (h : DigsAt w a m cap Y) : numAt w (.slice a m cap) = Y := by
  by_cases hm : m = 0
  · subst hm
    have h0 : Y = 0 := by simpa using h.lt
    subst h0
    rcases a with _ | ⟨b, off, s⟩ <;> rfl
  · obtain ⟨b, off, e, _, hc⟩ := h.cells hm
    subst e
    show numFrom w b off m = Y
    rw [numFrom_eq hc, Nat.mod_eq_of_lt h.lt]
def GivesA (w : World) (r : Nat) (e : Ending) (w' : World) : Prop :=
  ∃ a cap, e = .returned (.slice a (nl r) cap) ∧ DigsAt w' a (nl r) cap r ∧ Below w.heap.size w w'
set_option maxHeartbeats 4000000 in
theorem divisor_any (a b : Option Addr) (ca cb x y : Nat) (w : World) (hx : DigsAt w a (nl x) ca x) (hy : DigsAt w b (nl y) cb y) (hnx : nl x ≤ 134217728) (hny : nl y ≤ 134217728) :
    Calls Tryz.prog 76 #[.slice a (nl x) ca, .slice b (nl y) cb] w (GivesA w (Nat.gcd x y)) := by
  have HX := Lib.hid hx
  have HY := Lib.hid hy
  clear hx hy
  go_enter Tryz.func76, Tryz.ntmps76
  go_wp2
  go_loopw [0, 1] (fun va vb wr => ∃ (A C : Nat) (aa : Option Addr) (cA : Nat) (bb : Option Addr) (cC : Nat), va = .slice aa (nl A) cA ∧ vb = .slice bb (nl C) cC ∧ nl A ≤ 134217728 ∧ nl C ≤ 134217728 ∧ Hid (Nat.gcd A C = Nat.gcd x y) ∧ Hid (DigsAt wr aa (nl A) cA A) ∧ Hid (DigsAt wr bb (nl C) cC C) ∧ Hid (Below w.heap.size w wr)) (fun _ vb wr => numAt wr vb)
  case atStart => exact ⟨x, y, a, ca, b, cb, rfl, rfl, hnx, hny, rfl, HX, HY, Below.refl _ _⟩
  case round =>
    obtain ⟨A, C, aa, cA, bb, cC, rfl, rfl, hA, hC, hg, HA, HC, HB⟩ := hrel
    clear HX HY hnx hny
    by_cases hC0 : C = 0
    · subst hC0
      have HG := Lib.hid (show A = Nat.gcd x y by rw [← hg.out, Nat.gcd_zero_right])
      clear hg
      have hz : nl 0 = 0 := nl_zero
      go_wp2_with fail
      go_ret
      rw [← HG.out]
      exact ⟨_, _, rfl, HA.out, HB.out⟩
    · have hp : 0 < nl C := nl_pos hC0
      have hp2 : (0 : Int) < (nl C : Int) := by omega
      obtain ⟨R, hR⟩ : ∃ R, R = A % C := ⟨_, rfl⟩
      have hRC : R < C := by rw [hR]; exact Nat.mod_lt _ (by omega)
      have HQ := Lib.hid (quotient_any aa bb cA cC A C wr HA.out HC.out hC0 hA hC)
      rw [← hR] at HQ
      have HN := Lib.hid (show Nat.gcd C R = Nat.gcd x y by rw [← hg.out, hR, Nat.gcd_comm A C, Nat.gcd_rec C A, Nat.gcd_comm])
      have HRC := Lib.hid hRC
      have hnR : nl R ≤ 134217728 := Nat.le_trans (nl_mono (Nat.le_of_lt hRC)) hC
      clear hg hR hRC hC0
      go_wp2_with fail
      refine HQ.out.mono ?_
      rintro e w1 ⟨a1, c1, a2, c2, rfl, hd1, hd2, hb⟩
      have HD2 := Lib.hid hd2
      have HB2 := Lib.hid hb
      clear hd1 hd2 hb
      go_wp2_with fail
      case roundEnd =>
        refine ⟨⟨C, R, bb, cC, a2, c2, rfl, rfl, hC, hnR, HN, Lib.hid (HC.out.mono HB2.out), HD2, Lib.hid (HB.out.trans (HB2.out.mono HB.out.size))⟩, ?_⟩
        show numAt w1 (.slice a2 (nl R) c2) < numAt wr (.slice bb (nl C) cC)
        rw [HD2.out.num, HC.out.num]
        exact HRC.out
end R3
end Go.Proofs.YtafckcmieepmaaaGreatDoor
