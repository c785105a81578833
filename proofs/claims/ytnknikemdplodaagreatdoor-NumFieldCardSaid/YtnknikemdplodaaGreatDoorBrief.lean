/- law01.Brief: short numerators and denominators. -/
import Derived.Test.YtnknikemdplodaaGreatDoorFrac2
import Derived.Test.YtnknikemdplodaaGreatDoorLow
import Derived.Test.YtnknikemdplodaaGreatDoorVmD
namespace Go.Proofs.YtnknikemdplodaaGreatDoor
open Go.RowKit Go.Sort Dg Fr

theorem bitLen_short {x m : Nat} (hm : m ≤ 64) (hx : x < 18446744073709551616) : Lib.bitLen x ≤ m ↔ x < 2 ^ m := by
  rw [bitLen_eq (show x < B from hx)]
  refine ⟨fun h => Nat.lt_of_lt_of_le (lt_bl x) (Nat.pow_le_pow_right (by decide) h), fun h => ?_⟩
  unfold bl
  split
  · omega
  · rename_i h0
    have := (Nat.log2_lt h0).2 h
    omega
theorem addr_add (g o n : Nat) : (⟨g, o, none⟩ : Addr).add n = ⟨g, o + n, none⟩ := by
  unfold Addr.add; split
  · rename_i h; subst h; rfl
  · rfl
theorem flat2_get : ∀ (l : List (Int × Int)) (k : Nat) (h : k < l.length), (VM.flat2 l)[k * 2]? = some (.int .i64 l[k].1) ∧ (VM.flat2 l)[k * 2 + 1]? = some (.int .i64 l[k].2)
  | (a, b) :: l, 0, _ => ⟨rfl, rfl⟩
  | (a, b) :: l, k + 1, h => by
    obtain ⟨h1, h2⟩ := flat2_get l k (by simpa using h)
    refine ⟨?_, ?_⟩
    · rw [show (k + 1) * 2 = k * 2 + 1 + 1 by omega]; simpa [VM.flat2] using h1
    · rw [show (k + 1) * 2 + 1 = k * 2 + 1 + 1 + 1 by omega]; simpa [VM.flat2] using h2
theorem wrap_pos {A : Nat} (h : A ≤ 9223372036854775808) : IntKind.u64.wrap (A : Int) = A := by
  simp only [IntKind.wrap, IntKind.bits, IntKind.signed]; simp; omega
theorem wrap_neg {A : Nat} (h0 : 0 < A) (h : A ≤ 9223372036854775808) : IntKind.u64.wrap (-(A : Int)) = 18446744073709551616 - A := by
  simp only [IntKind.wrap, IntKind.bits, IntKind.signed]; simp; omega
theorem wrap_neg2 {A : Nat} (h0 : 0 < A) (h : A ≤ 9223372036854775808) : IntKind.u64.wrap (-(18446744073709551616 - (A : Int))) = A := by
  simp only [IntKind.wrap, IntKind.bits, IntKind.signed]; simp; omega
def okP (m : Nat) (p : Int × Int) : Bool := decide (p.1.natAbs < 2 ^ m) && decide (p.2 < 2 ^ m)
end Go.Proofs.YtnknikemdplodaaGreatDoor
