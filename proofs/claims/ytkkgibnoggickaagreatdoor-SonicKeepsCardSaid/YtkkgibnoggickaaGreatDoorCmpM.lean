/- Comparisons of fractions by whole numbers. Plain mathematics. -/
import Derived.Test.YtkkgibnoggickaaGreatDoorFracM
namespace Go.Proofs.YtkkgibnoggickaaGreatDoor
namespace Fr

theorem cmpQ_num (x y : Rat) : cmpQ x y = if x.num * y.den < y.num * x.den then -1 else if y.num * x.den < x.num * y.den then 1 else 0 := by
  unfold cmpQ
  simp only [Rat.lt_iff]
theorem signQ_cases (x : Rat) : (signQ x = -1 ∧ x.num < 0) ∨ (signQ x = 0 ∧ x.num = 0) ∨ (signQ x = 1 ∧ 0 < x.num) := by
  unfold signQ
  by_cases h : x.num < 0
  · left; simp [h]
  · by_cases h0 : 0 < x.num
    · right; right; simp [h, h0]
    · right; left; exact ⟨by simp [h, h0], by omega⟩
theorem cmp_signs {x y : Rat} (h : signQ x ≠ signQ y) : (if signQ x < signQ y then -1 else if signQ y < signQ x then 1 else 0 : Int) = cmpQ x y := by
  rw [cmpQ_num]
  have hd : (0 : Int) < y.den := by have := y.den_nz; omega
  have hc : (0 : Int) < x.den := by have := x.den_nz; omega
  have n1 : ∀ {a : Int}, a < 0 → a * y.den < 0 := fun h => Int.mul_neg_of_neg_of_pos h hd
  have n2 : ∀ {a : Int}, a < 0 → a * x.den < 0 := fun h => Int.mul_neg_of_neg_of_pos h hc
  have p1 : ∀ {a : Int}, 0 < a → 0 < a * y.den := fun h => Int.mul_pos h hd
  have p2 : ∀ {a : Int}, 0 < a → 0 < a * x.den := fun h => Int.mul_pos h hc
  rcases signQ_cases x with ⟨e, hx⟩ | ⟨e, hx⟩ | ⟨e, hx⟩ <;> rcases signQ_cases y with ⟨e', hy⟩ | ⟨e', hy⟩ | ⟨e', hy⟩ <;> rw [e, e'] at h ⊢ <;> first | exact absurd rfl h | skip
  · rw [hy, Int.zero_mul, if_pos (n1 hx)]; rfl
  · rw [if_pos (Int.lt_trans (n1 hx) (p2 hy))]; rfl
  · rw [hx, Int.zero_mul, if_neg (Int.lt_asymm (n2 hy)), if_pos (n2 hy)]; rfl
  · rw [hx, Int.zero_mul, if_pos (p2 hy)]; rfl
  · have k := Int.lt_trans (n2 hy) (p1 hx)
    rw [if_neg (Int.lt_asymm k), if_pos k]; rfl
  · rw [hy, Int.zero_mul, if_neg (Int.lt_asymm (p1 hx)), if_pos (p1 hx)]; rfl
theorem cmp_tops {x y : Rat} (h : signQ x = signQ y) : signQ x * (if top x * y.den < top y * x.den then -1 else if top y * x.den < top x * y.den then 1 else 0 : Int) = cmpQ x y := by
  rw [cmpQ_num]
  have t1 : ∀ {q : Rat}, q.num < 0 → q.num = -(top q : Int) := fun h => by unfold top; omega
  have t2 : ∀ {q : Rat}, 0 < q.num → q.num = (top q : Int) := fun h => by unfold top; omega
  rcases signQ_cases x with ⟨e, hx⟩ | ⟨e, hx⟩ | ⟨e, hx⟩ <;> rcases signQ_cases y with ⟨e', hy⟩ | ⟨e', hy⟩ | ⟨e', hy⟩ <;> rw [e, e'] at h <;> first | (exfalso; revert h; decide) | skip
  · rw [e, t1 hx, t1 hy]
    have k1 : -(top x : Int) * (y.den : Int) = -((top x * y.den : Nat) : Int) := by rw [Int.natCast_mul, Int.neg_mul]
    have k2 : -(top y : Int) * (x.den : Int) = -((top y * x.den : Nat) : Int) := by rw [Int.natCast_mul, Int.neg_mul]
    rw [k1, k2]
    generalize top x * y.den = p; generalize top y * x.den = q
    by_cases h1 : p < q
    · have a1 : ¬ (-(p : Int) < -(q : Int)) := by omega
      have a2 : -(q : Int) < -(p : Int) := by omega
      simp [h1, a1, a2]
    · by_cases h2 : q < p
      · have a1 : -(p : Int) < -(q : Int) := by omega
        simp [h1, h2, a1]
      · have a1 : ¬ (-(p : Int) < -(q : Int)) := by omega
        have a2 : ¬ (-(q : Int) < -(p : Int)) := by omega
        simp [h1, h2, a1, a2]
  · rw [e, hx, hy]; simp
  · rw [e, t2 hx, t2 hy]
    have k1 : (top x : Int) * (y.den : Int) = ((top x * y.den : Nat) : Int) := by rw [Int.natCast_mul]
    have k2 : (top y : Int) * (x.den : Int) = ((top y * x.den : Nat) : Int) := by rw [Int.natCast_mul]
    rw [k1, k2, Int.one_mul]
    simp only [Int.ofNat_lt]
theorem same_iff {x y : Rat} : x = y ↔ neg x = neg y ∧ top x = top y ∧ x.den = y.den := by
  constructor
  · rintro rfl; exact ⟨rfl, rfl, rfl⟩
  · rintro ⟨h1, h2, h3⟩
    rw [← frac_self x, ← frac_self y, h1, h2, h3]
end Fr
end Go.Proofs.YtkkgibnoggickaaGreatDoor
