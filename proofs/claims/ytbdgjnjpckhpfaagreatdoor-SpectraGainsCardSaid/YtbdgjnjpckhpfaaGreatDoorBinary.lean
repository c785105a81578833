/- num.binary: a number of binary places. -/
import Derived.Test.YtbdgjnjpckhpfaaGreatDoorFrac2
import Derived.Test.YtbdgjnjpckhpfaaGreatDoorLow
import Derived.Test.YtbdgjnjpckhpfaaGreatDoorVmD
namespace Go.Proofs.YtbdgjnjpckhpfaaGreatDoor
open Go.RowKit Go.Sort Dg Fr

theorem binQ_frac (s : Bool) (X k : Nat) : VM.binQ s X k = frac s X (2 ^ k) := by
  have h2 : (2 ^ k : Nat) ≠ 0 := Nat.pos_iff_ne_zero.1 (Nat.pow_pos (by decide))
  unfold VM.binQ frac sg
  rw [← Rat.divInt_eq_div]
  rfl
theorem frac_cut (s : Bool) (X k t : Nat) (ht : t ≤ k) (hd : 2 ^ t ∣ X) : frac s (X / 2 ^ t) (2 ^ (k - t)) = frac s X (2 ^ k) := by
  obtain ⟨y, rfl⟩ := hd
  have hp : 0 < 2 ^ t := Nat.pow_pos (by decide)
  have e : 2 ^ k = 2 ^ t * 2 ^ (k - t) := by rw [← Nat.pow_add]; congr 1; omega
  rw [Nat.mul_div_cancel_left _ hp, e]
  unfold frac
  have : sg s (2 ^ t * y) = ((2 ^ t : Nat) : Int) * sg s y := by
    unfold sg; cases s <;> simp [Int.mul_neg]
  rw [this]
  exact (Rat.mkRat_mul_left (Nat.pos_iff_ne_zero.1 hp)).symm
theorem nl_pow {k n : Nat} (h : k < 64 * n) : nl (2 ^ k) ≤ n := nl_le (by rw [B_pow_two]; exact Nat.pow_lt_pow_right (by decide) h)
end Go.Proofs.YtbdgjnjpckhpfaaGreatDoor
