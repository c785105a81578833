/- sonic.common: the greatest common divisor of two whole numbers. -/
import Derived.Test.YteooocleoihdbaaGreatDoorEuclid
namespace Go.Proofs.YteooocleoihdbaaGreatDoor
open Go.RowKit Go.Sort Dg

theorem gcd_tmod {a b : Int} : Int.gcd b (a.tmod b) = Int.gcd a b := by
  unfold Int.gcd
  rw [Int.natAbs_tmod, Nat.gcd_comm a.natAbs, Nat.gcd_rec b.natAbs a.natAbs, Nat.gcd_comm]
set_option maxHeartbeats 1000000 in
theorem sonicCommon_any (x y : Int) (hx0 : -4611686018427387904 ≤ x) (hx1 : x ≤ 4611686018427387904) (hy0 : -4611686018427387904 ≤ y) (hy1 : y ≤ 4611686018427387904) (w : World) :
    Calls Tryz.prog 163 #[.int .i64 x, .int .i64 y] w fun e w' => e = .returned (.int .i64 (Int.gcd x y : Nat)) ∧ ∃ q, w.drewN q = w' := by
  go_enter Tryz.func163, Tryz.ntmps163
  go_wp2
  go_loopw [0, 1] (fun v0 v1 wr => ∃ (a b : Int) (q : Nat), v0 = .int .i64 a ∧ v1 = .int .i64 b ∧ -4611686018427387904 ≤ a ∧ a ≤ 4611686018427387904 ∧ -4611686018427387904 ≤ b ∧ b ≤ 4611686018427387904 ∧ Hid (Int.gcd a b = Int.gcd x y) ∧ wr = w.drewN q) (fun _ v1 _ => (intOf v1).natAbs)
  case atStart => exact ⟨x, y, 0, rfl, rfl, hx0, hx1, hy0, hy1, rfl, rfl⟩
  case round =>
    obtain ⟨a, b, q, rfl, rfl, ha0, ha1, hb0, hb1, hg, rfl⟩ := hrel
    by_cases hz : b = 0
    · subst hz
      go_wp2
      have hres : max a (-a) = ((Int.gcd x y : Nat) : Int) := by
        have := hg.out
        rw [Int.gcd_zero_right] at this
        rw [← this]; omega
      rw [hres]
      go_ret
      exact ⟨rfl, q, rfl⟩
    · obtain ⟨c, hc⟩ : ∃ c, a.tmod b = c := ⟨_, rfl⟩
      have hcg : Hid (Int.gcd b c = Int.gcd x y) := Lib.hid (by rw [← hg.out, ← hc, gcd_tmod])
      have hcl : c.natAbs < b.natAbs := by rw [← hc, Int.natAbs_tmod]; exact Nat.mod_lt _ (by omega)
      have ht : (b == 0) = false := by rw [beq_eq_false_iff_ne]; omega
      go_wp2
      go_region
      go_wp2
      go_roundw
      case rel => exact ⟨b, c, q + 1, rfl, rfl, by omega, by omega, by omega, by omega, hcg, rfl⟩
      case measure => simp [intOf]; exact hcl
end Go.Proofs.YteooocleoihdbaaGreatDoor
