/- The reference's divisor: the greatest common divisor of two whole numbers. -/
import Derived.Test.YteooocleoihdbaaGreatDoorSonC
namespace Go.Proofs.YteooocleoihdbaaGreatDoor
open Go.RowKit Go.Sort Dg

set_option maxHeartbeats 1000000 in
theorem refDivisor3_any (x y : Int) (hx0 : -4611686018427387904 ≤ x) (hx1 : x ≤ 4611686018427387904) (hy0 : -4611686018427387904 ≤ y) (hy1 : y ≤ 4611686018427387904) (w : World) :
    Calls Tryz.prog 81 #[.int .i64 x, .int .i64 y] w fun e w' => e = .returned (.int .i64 (Int.gcd x y : Nat)) ∧ ∃ q, w.drewN q = w' := by
  obtain ⟨X, hX⟩ : ∃ X, max x (-x) = X := ⟨_, rfl⟩
  obtain ⟨Y, hY⟩ : ∃ Y, max y (-y) = Y := ⟨_, rfl⟩
  have hX0 : 0 ≤ X := by omega
  have hX1 : X ≤ 4611686018427387904 := by omega
  have hY0 : 0 ≤ Y := by omega
  have hY1 : Y ≤ 4611686018427387904 := by omega
  have hG : Hid (Int.gcd X Y = Int.gcd x y) := Lib.hid (by
    unfold Int.gcd
    rw [show X.natAbs = x.natAbs by omega, show Y.natAbs = y.natAbs by omega])
  go_enter Tryz.func81, Tryz.ntmps81
  go_wp2
  go_loopw [0, 1] (fun v0 v1 wr => ∃ (a b : Int) (q : Nat), v0 = .int .i64 a ∧ v1 = .int .i64 b ∧ 0 ≤ a ∧ a ≤ 4611686018427387904 ∧ 0 ≤ b ∧ b ≤ 4611686018427387904 ∧ Hid (Int.gcd a b = Int.gcd x y) ∧ wr = w.drewN q) (fun _ v1 _ => (intOf v1).natAbs)
  case atStart => exact ⟨X, Y, 0, rfl, rfl, hX0, hX1, hY0, hY1, hG, rfl⟩
  case round =>
    obtain ⟨a, b, q, rfl, rfl, ha0, ha1, hb0, hb1, hg, rfl⟩ := hrel
    clear hX hY hG
    by_cases hz : b = 0
    · subst hz
      go_wp2
      have hres : a = ((Int.gcd x y : Nat) : Int) := by
        have := hg.out
        rw [Int.gcd_zero_right] at this
        rw [← this]; omega
      rw [hres]
      go_ret
      exact ⟨rfl, q, rfl⟩
    · obtain ⟨c, hc⟩ : ∃ c, a.tmod b = c := ⟨_, rfl⟩
      have hcg : Hid (Int.gcd b c = Int.gcd x y) := Lib.hid (by rw [← hg.out, ← hc, gcd_tmod])
      have hcl : c.natAbs < b.natAbs := by rw [← hc, Int.natAbs_tmod]; exact Nat.mod_lt _ (by omega)
      have hc0 : 0 ≤ c := by rw [← hc]; exact Int.tmod_nonneg _ ha0
      have ht : decide (0 < b) = true := by rw [decide_eq_true_eq]; omega
      go_wp2
      go_region
      go_wp2
      go_roundw
      case rel => exact ⟨b, c, q + 1, rfl, rfl, by omega, by omega, by omega, by omega, hcg, rfl⟩
      case measure => simp [intOf]; exact hcl
end Go.Proofs.YteooocleoihdbaaGreatDoor
