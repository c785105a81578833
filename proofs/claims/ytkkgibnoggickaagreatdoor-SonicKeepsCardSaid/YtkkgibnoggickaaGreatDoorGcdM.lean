/- Common divisors: twos, and what both multiples of simulate keep. -/
import Derived.Test.YtkkgibnoggickaaGreatDoorLehmer
namespace Go.Proofs.YtkkgibnoggickaaGreatDoor
open Dg

theorem gcd_odd {u v k : Nat} (hu : u % 2 = 1) : Nat.gcd u (2 ^ k * v) = Nat.gcd u v := by
  have h : Nat.Coprime u (2 ^ k) := by
    apply Nat.Coprime.pow_right
    unfold Nat.Coprime
    rw [Nat.gcd_comm, Nat.gcd_rec, hu]
    rfl
  exact Nat.Coprime.gcd_mul_left_cancel_right v h.symm
theorem gcd_twos {u v a b : Nat} (hu : u % 2 = 1) (hv : v % 2 = 1) : Nat.gcd (2 ^ a * u) (2 ^ b * v) = Nat.gcd u v * 2 ^ min a b := by
  rcases Nat.le_total a b with h | h
  · obtain ⟨k, rfl⟩ : ∃ k, b = a + k := ⟨b - a, by omega⟩
    rw [Nat.min_eq_left h, Nat.pow_add, Nat.mul_assoc, Nat.gcd_mul_left, gcd_odd hu, Nat.mul_comm]
  · obtain ⟨k, rfl⟩ : ∃ k, a = b + k := ⟨a - b, by omega⟩
    rw [Nat.min_eq_right h, Nat.pow_add, Nat.mul_assoc, Nat.gcd_mul_left, Nat.gcd_comm, gcd_odd hv, Nat.gcd_comm, Nat.mul_comm]
theorem gcd_step {X Y : Nat} : Nat.gcd Y (X % Y) = Nat.gcd X Y := by rw [Nat.gcd_comm X Y, Nat.gcd_rec Y X, Nat.gcd_comm]
theorem far_dvd {X Y a b g : Nat} (h1 : g ∣ X) (h2 : g ∣ Y) : g ∣ far X Y a b := by
  unfold far
  have h : (g : Int) ∣ (a : Int) * X - b * Y := Int.dvd_sub (Int.dvd_mul_of_dvd_right (Int.natCast_dvd_natCast.2 h1)) (Int.dvd_mul_of_dvd_right (Int.natCast_dvd_natCast.2 h2))
  exact Int.natCast_dvd_natCast.1 (Int.dvd_natAbs.2 h)
theorem dvd_far {X Y a b g : Nat} (h : g ∣ far X Y a b) : (g : Int) ∣ (a : Int) * X - b * Y := Int.dvd_natAbs.1 (Int.natCast_dvd_natCast.2 h)
theorem far_gcd {X Y a b c d : Nat} (h : a * d = b * c + 1 ∨ b * c = a * d + 1) : Nat.gcd (far X Y a b) (far X Y c d) = Nat.gcd X Y := by
  apply Nat.dvd_antisymm
  · have k1 := dvd_far (Nat.gcd_dvd_left (far X Y a b) (far X Y c d))
    have k2 := dvd_far (Nat.gcd_dvd_right (far X Y a b) (far X Y c d))
    generalize Nat.gcd (far X Y a b) (far X Y c d) = g at *
    have e1 := Int.dvd_sub (Int.dvd_mul_of_dvd_right (b := (d : Int)) k1) (Int.dvd_mul_of_dvd_right (b := (b : Int)) k2)
    have e2 := Int.dvd_sub (Int.dvd_mul_of_dvd_right (b := (c : Int)) k1) (Int.dvd_mul_of_dvd_right (b := (a : Int)) k2)
    rcases h with h | h
    · have h' : (a : Int) * d = b * c + 1 := by exact_mod_cast h
      rw [show (d : Int) * ((a : Int) * X - b * Y) - b * ((c : Int) * X - d * Y) = X by grind] at e1
      rw [show (c : Int) * ((a : Int) * X - b * Y) - a * ((c : Int) * X - d * Y) = Y by grind] at e2
      exact Nat.dvd_gcd (Int.natCast_dvd_natCast.1 e1) (Int.natCast_dvd_natCast.1 e2)
    · have h' : (b : Int) * c = a * d + 1 := by exact_mod_cast h
      rw [show (d : Int) * ((a : Int) * X - b * Y) - b * ((c : Int) * X - d * Y) = -X by grind] at e1
      rw [show (c : Int) * ((a : Int) * X - b * Y) - a * ((c : Int) * X - d * Y) = -Y by grind] at e2
      exact Nat.dvd_gcd (Int.natCast_dvd_natCast.1 (Int.dvd_neg.1 e1)) (Int.natCast_dvd_natCast.1 (Int.dvd_neg.1 e2))
  · exact Nat.dvd_gcd (far_dvd (Nat.gcd_dvd_left ..) (Nat.gcd_dvd_right ..)) (far_dvd (Nat.gcd_dvd_left ..) (Nat.gcd_dvd_right ..))
end Go.Proofs.YtkkgibnoggickaaGreatDoor
