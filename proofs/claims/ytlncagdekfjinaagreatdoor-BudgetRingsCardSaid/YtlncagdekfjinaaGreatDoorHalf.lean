/- Plain arithmetic: a division of three half words by two, by a guess from the first ones. -/
import Derived.Test.YtlncagdekfjinaaGreatDoorDigits
namespace Go.Proofs.YtlncagdekfjinaaGreatDoor
namespace Dg
def H : Nat := 4294967296
theorem H_pos : 0 < H := by unfold H; omega
theorem HH : H * H = B := rfl
section
variable {Y y1 y0 u u1 T : Nat}
theorem half_lt (hu : u < Y) (hu1 : u1 < H) (hT : (u * H + u1) / Y = T) : T < H := by
  rw [← hT, Nat.div_lt_iff_lt_mul (by omega)]
  have := Nat.mul_le_mul_left H (show u + 1 ≤ Y from hu)
  rw [Nat.mul_add, Nat.mul_one, Nat.mul_comm H u] at this
  omega
theorem half_mul (hY : Y = y1 * H + y0) (q r : Nat) (hq : q * y1 + r = u) : q * Y + r * H = u * H + q * y0 := by
  rw [hY, ← hq, Nat.mul_add, Nat.add_mul]
  have : q * (y1 * H) = q * y1 * H := by rw [Nat.mul_assoc]
  omega
theorem half_first (hY : Y = y1 * H + y0) (hy1 : 0 < y1) (hu1 : u1 < H) (hT : (u * H + u1) / Y = T) : T ≤ u / y1 := by
  have h1 : T * Y ≤ u * H + u1 := by rw [← hT]; exact Nat.div_mul_le_self _ _
  rw [Nat.le_div_iff_mul_le hy1]
  rw [hY, Nat.mul_add] at h1
  have e : T * (y1 * H) = T * y1 * H := by rw [Nat.mul_assoc]
  rcases Nat.lt_or_ge u (T * y1) with h2 | h2
  · have h3 := Nat.mul_le_mul_right H (show u + 1 ≤ T * y1 from h2)
    rw [Nat.add_mul, Nat.one_mul] at h3
    omega
  · exact h2
theorem half_most (hY : Y = y1 * H + y0) (hy0 : y0 < H) (hy1 : 2147483648 ≤ y1) (hu : u < Y) : u / y1 ≤ H + 1 := by
  have : u / y1 < H + 2 := by
    rw [Nat.div_lt_iff_lt_mul (by omega), Nat.add_mul, Nat.mul_comm H]
    unfold H at *; omega
  omega
theorem half_less (hY : Y = y1 * H + y0) (hu : u < Y) (hu1 : u1 < H) (hT : (u * H + u1) / Y = T) {q r : Nat} (hq : q * y1 + r = u) (h : H ≤ q ∨ H * r + u1 < q * y0) : T < q := by
  rcases h with h | h
  · exact Nat.lt_of_lt_of_le (half_lt hu hu1 hT) h
  · have h1 := half_mul hY q r hq
    rw [← hT, Nat.div_lt_iff_lt_mul (by omega)]
    rw [Nat.mul_comm H r] at h
    omega
theorem half_right (hY : Y = y1 * H + y0) (hu : u < Y) (hT : (u * H + u1) / Y = T) {q r : Nat} (hq : q * y1 + r = u) (hTq : T ≤ q) (h : q * y0 ≤ H * r + u1) : q = T := by
  have h1 := half_mul hY q r hq
  have h2 : q ≤ T := by
    rw [← hT, Nat.le_div_iff_mul_le (by omega)]
    rw [Nat.mul_comm H r] at h
    omega
  omega
theorem half_break (hY : Y = y1 * H + y0) (hy0 : y0 < H) (hy1 : 2147483648 ≤ y1) (hu : u < Y) (hT : (u * H + u1) / Y = T) {q r : Nat} (hq : q * y1 + r = u) (hTq : T ≤ q) (hr : H ≤ r) : q = T := by
  refine half_right (u1 := u1) hY hu hT hq hTq ?_
  have h1 : q ≤ u / y1 := by rw [Nat.le_div_iff_mul_le (by omega)]; omega
  have h2 := half_most hY hy0 hy1 hu
  have h3 : q * y0 ≤ (H + 1) * (H - 1) := Nat.mul_le_mul (by omega) (by omega)
  have h4 := Nat.mul_le_mul_left H hr
  have h5 : (H + 1) * (H - 1) + 1 = H * H := by decide
  omega
theorem half_rest (hu : u < Y) (hT : (u * H + u1) / Y = T) : T * Y ≤ u * H + u1 ∧ u * H + u1 - T * Y < Y ∧ u * H + u1 - T * Y = (u * H + u1) % Y := by
  have h1 := Nat.mod_add_div (u * H + u1) Y
  rw [hT, Nat.mul_comm Y T] at h1
  have h2 := Nat.mod_lt (u * H + u1) (show Y > 0 by omega)
  omega
end
theorem halves {hi lo y s Y u32 u10 q1 u21 q0 : Nat} (hY : Y = y * 2 ^ s) (hyp : 0 < y) (hU : (hi * B + lo) * 2 ^ s = u32 * B + u10)
    (h1 : (u32 * H + u10 / H) / Y = q1) (h2 : (u32 * H + u10 / H) % Y = u21) (h3 : (u21 * H + u10 % H) / Y = q0) :
    q1 * H + q0 = (hi * B + lo) / y ∧ ((u21 * H + u10 % H) % Y) / 2 ^ s = (hi * B + lo) % y := by
  have hs : 0 < 2 ^ s := Nat.pow_pos (by omega)
  have e1 := Nat.mod_add_div (u32 * H + u10 / H) Y
  have e2 := Nat.mod_add_div (u21 * H + u10 % H) Y
  have e3 := Nat.mod_add_div u10 H
  rw [h1, h2] at e1
  rw [h3] at e2
  have hYp : 0 < Y := by rw [hY]; exact Nat.mul_pos hyp hs
  have hrl := Nat.mod_lt (u21 * H + u10 % H) hYp
  generalize (u21 * H + u10 % H) % Y = r at *
  generalize u10 / H = a at *
  generalize u10 % H = b at *
  have e4 : u32 * B + u10 = r + Y * (q1 * H + q0) := by
    rw [← HH, ← e3]
    have : u32 * (H * H) = u32 * H * H := by rw [Nat.mul_assoc]
    have e5 : (u21 + Y * q1) * H = (u32 * H + a) * H := by rw [e1]
    rw [Nat.add_mul, Nat.add_mul] at e5
    have e6 : Y * (q1 * H + q0) = Y * q1 * H + Y * q0 := by rw [Nat.mul_add, Nat.mul_assoc]
    have e7 : H * a = a * H := Nat.mul_comm _ _
    omega
  rw [← hU] at e4
  generalize hi * B + lo = N at *
  have e5 : (q1 * H + q0) = N / y := by
    symm
    have : N / y = N * 2 ^ s / Y := by rw [hY, Nat.mul_div_mul_right _ _ hs]
    rw [this, e4, Nat.add_mul_div_left _ _ hYp, Nat.div_eq_of_lt hrl, Nat.zero_add]
  refine ⟨e5, ?_⟩
  have e6 : N * 2 ^ s % Y = r := by rw [e4, Nat.add_mul_mod_self_left, Nat.mod_eq_of_lt hrl]
  rw [hY, Nat.mul_mod_mul_right] at e6
  rw [← e6, Nat.mul_div_cancel _ hs]
end Dg
end Go.Proofs.YtlncagdekfjinaaGreatDoor
