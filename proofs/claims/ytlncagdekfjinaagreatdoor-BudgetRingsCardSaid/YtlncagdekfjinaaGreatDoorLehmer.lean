/- The multiples that Lehmer's steps of Euclid's come to. Common divisors: twos, and what both multiples of simulate keep. -/
import Derived.Test.YtlncagdekfjinaaGreatDoorDigits
namespace Go.Proofs.YtlncagdekfjinaaGreatDoor
open Dg
theorem euc_sub {x y P a0 a1 b0 b1 ξ η : Nat} (hξ : ξ < P) (hη : η < P) (le1 : a1 ≤ b1) (le2 : a0 + a1 ≤ b0 + b1) (pos : 1 ≤ b1) (ord : y ≤ x) (c1 : b1 ≤ y) (c2 : b0 + b1 ≤ x - y) :
    a1 * ξ < y * P ∧ b1 * η < y * P ∧ (b0 + b1) * η + y * P < x * P ∧ (a0 + a1) * ξ + y * P < x * P := by
  have h1 : b1 * P ≤ y * P := Nat.mul_le_mul_right _ c1
  have h2 : (b0 + b1) * P ≤ (x - y) * P := Nat.mul_le_mul_right _ c2
  have h3 : b1 * ξ < b1 * P := Nat.mul_lt_mul_of_pos_left hξ (by omega)
  have h4 : b1 * η < b1 * P := Nat.mul_lt_mul_of_pos_left hη (by omega)
  have h5 : (b0 + b1) * ξ < (b0 + b1) * P := Nat.mul_lt_mul_of_pos_left hξ (by omega)
  have h6 : (b0 + b1) * η < (b0 + b1) * P := Nat.mul_lt_mul_of_pos_left hη (by omega)
  have h7 : a1 * ξ ≤ b1 * ξ := Nat.mul_le_mul_right _ le1
  have h8 : (a0 + a1) * ξ ≤ (b0 + b1) * ξ := Nat.mul_le_mul_right _ le2
  have h9 : (x - y) * P + y * P = x * P := by rw [← Nat.add_mul, Nat.sub_add_cancel ord]
  omega
def far (X Y a b : Nat) : Nat := ((a : Int) * X - b * Y).natAbs
structure Euc (xh yh x y a0 b0 a1 b1 : Nat) : Prop where
  det : a0 * b1 = b0 * a1 + 1 ∨ b0 * a1 = a0 * b1 + 1
  ex : b1 * x + b0 * y = xh
  ey : a1 * x + a0 * y = yh
  le1 : a1 ≤ b1
  le2 : a0 + a1 ≤ b0 + b1
  pos : 1 ≤ b1
  ord : y ≤ x
theorem Euc.start {xh yh : Nat} (h : yh ≤ xh) : Euc xh yh xh yh 1 0 0 1 := ⟨by simp, by simp, by simp, by omega, by omega, by omega, h⟩
theorem Euc.step {xh yh x y a0 b0 a1 b1 : Nat} (h : Euc xh yh x y a0 b0 a1 b1) (hy : 1 ≤ y) : Euc xh yh y (x % y) a1 b1 (a0 + x / y * a1) (b0 + x / y * b1) := by
  have hq : 1 ≤ x / y := by rw [Nat.le_div_iff_mul_le hy]; have := h.ord; omega
  have hx := Nat.div_add_mod' x y
  have hr := Nat.le_of_lt (Nat.mod_lt x hy)
  have ⟨det, ex, ey, le1, le2, pos, ord⟩ := h
  generalize x % y = r at *
  generalize x / y = q at *
  obtain ⟨p, rfl⟩ : ∃ p, q = p + 1 := ⟨q - 1, by omega⟩
  have h1 := Nat.mul_le_mul_left p le1
  refine ⟨?_, ?_, ?_, ?_, ?_, ?_, ?_⟩
  · rcases det with d | d
    · right; grind
    · left; grind
  · subst hx; rw [← ex]; grind
  · subst hx; rw [← ey]; grind
  · rw [Nat.add_mul, Nat.add_mul]; omega
  · rw [Nat.add_mul, Nat.add_mul]; omega
  · rw [Nat.add_mul]; omega
  · exact hr
theorem euc_true {X Y P ξ η xh yh x y a0 b0 a1 b1 : Nat} (h : Euc xh yh x y a0 b0 a1 b1) (hX : X = xh * P + ξ) (hY : Y = yh * P + η) (hξ : ξ < P) (hη : η < P) (c1 : b1 ≤ y) (c2 : b0 + b1 ≤ x - y) :
    far X Y a1 b1 < far X Y a0 b0 := by
  obtain ⟨s1, s2, s3, s4⟩ := euc_sub hξ hη h.le1 h.le2 h.pos h.ord c1 c2
  have ⟨det, ex, ey, _, _, _, _⟩ := h
  unfold far
  rcases det with d | d
  · have e0 : (a0 : Int) * X - b0 * Y = x * P + a0 * ξ - b0 * η := by
      have d' : (a0 : Int) * b1 = b0 * a1 + 1 := by exact_mod_cast d
      subst hX hY ex ey
      grind
    have e1 : (a1 : Int) * X - b1 * Y = - (y * P + b1 * η - a1 * ξ) := by
      have d' : (a0 : Int) * b1 = b0 * a1 + 1 := by exact_mod_cast d
      subst hX hY ex ey
      grind
    rw [e0, e1]
    have s5 : (b0 : Int) * η + b1 * η + y * P < x * P := by have := Int.ofNat_lt.2 s3; grind
    have s6 : (a1 : Int) * ξ < y * P := by exact_mod_cast s1
    have p1 : (0 : Int) ≤ (a0 : Int) * ξ := by exact_mod_cast Nat.zero_le (a0 * ξ)
    have p2 : (0 : Int) ≤ (b0 : Int) * η := by exact_mod_cast Nat.zero_le (b0 * η)
    have p3 : (0 : Int) ≤ (b1 : Int) * η := by exact_mod_cast Nat.zero_le (b1 * η)
    have p4 : (0 : Int) ≤ (a1 : Int) * ξ := by exact_mod_cast Nat.zero_le (a1 * ξ)
    omega
  · have e0 : (a0 : Int) * X - b0 * Y = - (x * P + b0 * η - a0 * ξ) := by
      have d' : (b0 : Int) * a1 = a0 * b1 + 1 := by exact_mod_cast d
      subst hX hY ex ey
      grind
    have e1 : (a1 : Int) * X - b1 * Y = y * P + a1 * ξ - b1 * η := by
      have d' : (b0 : Int) * a1 = a0 * b1 + 1 := by exact_mod_cast d
      subst hX hY ex ey
      grind
    rw [e0, e1]
    have s5 : (a0 : Int) * ξ + a1 * ξ + y * P < x * P := by have := Int.ofNat_lt.2 s4; grind
    have s6 : (b1 : Int) * η < y * P := by exact_mod_cast s2
    have p1 : (0 : Int) ≤ (a0 : Int) * ξ := by exact_mod_cast Nat.zero_le (a0 * ξ)
    have p2 : (0 : Int) ≤ (b0 : Int) * η := by exact_mod_cast Nat.zero_le (b0 * η)
    have p3 : (0 : Int) ≤ (b1 : Int) * η := by exact_mod_cast Nat.zero_le (b1 * η)
    have p4 : (0 : Int) ≤ (a1 : Int) * ξ := by exact_mod_cast Nat.zero_le (a1 * ξ)
    omega
structure Lehmer (X Y a b c d : Nat) : Prop where
  det : a * d = b * c + 1 ∨ b * c = a * d + 1
  lt : far X Y c d < far X Y a b
  ley : far X Y c d ≤ Y
  prog : b = 0 ∨ far X Y c d < Y
  lex : far X Y a b ≤ X
theorem Euc.lehmer {X Y xh yh x y a0 b0 a1 b1 : Nat} (h : Euc xh yh x y a0 b0 a1 b1) (hlt : far X Y a1 b1 < far X Y a0 b0) (hx : far X Y a0 b0 ≤ X) (hy : b0 = 0 ∨ far X Y a0 b0 ≤ Y) : Lehmer X Y a0 b0 a1 b1 := by
  have ⟨det, _, _, le1, le2, pos, _⟩ := h
  refine ⟨det, hlt, ?_, ?_, hx⟩
  · rcases hy with h0 | h0
    · subst h0
      rw [Nat.zero_mul] at det
      have h1 : a1 = 0 := by
        rcases Nat.eq_zero_or_pos a0 with h2 | h2
        · subst h2; rw [Nat.zero_mul] at det; omega
        · have h3 : b1 ≤ a0 * b1 := Nat.le_mul_of_pos_left _ h2
          omega
      have h2 : b1 = 1 := by
        have h3 : a0 * b1 = 1 := by omega
        exact Nat.eq_one_of_mul_eq_one_left h3
      subst h1 h2
      unfold far
      omega
    · omega
  · rcases hy with h0 | h0
    · exact .inl h0
    · right; omega
theorem Euc.bounds {xh yh x y a0 b0 a1 b1 : Nat} (h : Euc xh yh x y a0 b0 a1 b1) (hx : 1 ≤ x) : b1 ≤ xh ∧ a1 ≤ xh ∧ x ≤ xh ∧ (1 ≤ y → b0 + b1 ≤ xh) := by
  have ⟨_, ex, _, le1, _, pos, ord⟩ := h
  have h1 : b1 ≤ b1 * x := Nat.le_mul_of_pos_right _ hx
  have h2 : x ≤ b1 * x := Nat.le_mul_of_pos_left _ pos
  refine ⟨by omega, by omega, by omega, fun hy => ?_⟩
  have h3 : b0 ≤ b0 * y := Nat.le_mul_of_pos_right _ hy
  omega
end Go.Proofs.YtlncagdekfjinaaGreatDoor
namespace Go.Proofs.YtlncagdekfjinaaGreatDoor
open Dg
theorem gcd_odd {u v k : Nat} (hu : u % 2 = 1) : Nat.gcd u (2 ^ k * v) = Nat.gcd u v := by
  have h : Nat.Coprime u (2 ^ k) := by
    apply Nat.Coprime.pow_right
    unfold Nat.Coprime
    rw [Nat.gcd_comm, Nat.gcd_rec, hu]
    rfl
  exact Nat.Coprime.gcd_mul_left_cancel_right v h.symm
theorem gcd_twos {u v a b : Nat} (hu : u % 2 = 1) (hv : v % 2 = 1) : Nat.gcd (2 ^ a * u) (2 ^ b * v) = Nat.gcd u v * 2 ^ min a b := by
  rcases Nat.le_total a b with h | h
  · obtain ⟨k, rfl⟩ : ∃ k, b = a + k := ⟨b - a, by omega⟩
    rw [Nat.min_eq_left h, Nat.pow_add, Nat.mul_assoc, Nat.gcd_mul_left, gcd_odd hu, Nat.mul_comm]
  · obtain ⟨k, rfl⟩ : ∃ k, a = b + k := ⟨a - b, by omega⟩
    rw [Nat.min_eq_right h, Nat.pow_add, Nat.mul_assoc, Nat.gcd_mul_left, Nat.gcd_comm, gcd_odd hv, Nat.gcd_comm, Nat.mul_comm]
theorem gcd_step {X Y : Nat} : Nat.gcd Y (X % Y) = Nat.gcd X Y := by rw [Nat.gcd_comm X Y, Nat.gcd_rec Y X, Nat.gcd_comm]
theorem far_dvd {X Y a b g : Nat} (h1 : g ∣ X) (h2 : g ∣ Y) : g ∣ far X Y a b := by
  unfold far
  have h : (g : Int) ∣ (a : Int) * X - b * Y := Int.dvd_sub (Int.dvd_mul_of_dvd_right (Int.natCast_dvd_natCast.2 h1)) (Int.dvd_mul_of_dvd_right (Int.natCast_dvd_natCast.2 h2))
  exact Int.natCast_dvd_natCast.1 (Int.dvd_natAbs.2 h)
theorem dvd_far {X Y a b g : Nat} (h : g ∣ far X Y a b) : (g : Int) ∣ (a : Int) * X - b * Y := Int.dvd_natAbs.1 (Int.natCast_dvd_natCast.2 h)
theorem far_gcd {X Y a b c d : Nat} (h : a * d = b * c + 1 ∨ b * c = a * d + 1) : Nat.gcd (far X Y a b) (far X Y c d) = Nat.gcd X Y := by
  apply Nat.dvd_antisymm
  · have k1 := dvd_far (Nat.gcd_dvd_left (far X Y a b) (far X Y c d))
    have k2 := dvd_far (Nat.gcd_dvd_right (far X Y a b) (far X Y c d))
    generalize Nat.gcd (far X Y a b) (far X Y c d) = g at *
    have e1 := Int.dvd_sub (Int.dvd_mul_of_dvd_right (b := (d : Int)) k1) (Int.dvd_mul_of_dvd_right (b := (b : Int)) k2)
    have e2 := Int.dvd_sub (Int.dvd_mul_of_dvd_right (b := (c : Int)) k1) (Int.dvd_mul_of_dvd_right (b := (a : Int)) k2)
    rcases h with h | h
    · have h' : (a : Int) * d = b * c + 1 := by exact_mod_cast h
      rw [show (d : Int) * ((a : Int) * X - b * Y) - b * ((c : Int) * X - d * Y) = X by grind] at e1
      rw [show (c : Int) * ((a : Int) * X - b * Y) - a * ((c : Int) * X - d * Y) = Y by grind] at e2
      exact Nat.dvd_gcd (Int.natCast_dvd_natCast.1 e1) (Int.natCast_dvd_natCast.1 e2)
    · have h' : (b : Int) * c = a * d + 1 := by exact_mod_cast h
      rw [show (d : Int) * ((a : Int) * X - b * Y) - b * ((c : Int) * X - d * Y) = -X by grind] at e1
      rw [show (c : Int) * ((a : Int) * X - b * Y) - a * ((c : Int) * X - d * Y) = -Y by grind] at e2
      exact Nat.dvd_gcd (Int.natCast_dvd_natCast.1 (Int.dvd_neg.1 e1)) (Int.natCast_dvd_natCast.1 (Int.dvd_neg.1 e2))
  · exact Nat.dvd_gcd (far_dvd (Nat.gcd_dvd_left ..) (Nat.gcd_dvd_right ..)) (far_dvd (Nat.gcd_dvd_left ..) (Nat.gcd_dvd_right ..))
end Go.Proofs.YtlncagdekfjinaaGreatDoor
