/- GasAnchors: what is asked holds. -/
import Derived.Test.YtpchihhngpdblaaGreatDoorGasAnchorsA0
namespace Go.Proofs.YtpchihhngpdblaaGreatDoor.gasAnchors
open Go.ChangeShapes Go.WideShapes Go.ChangeAt Go.RowKit
theorem prods (U a : Rat) (h0 : 0 ≤ a) (h1 : a ≤ 255) : (0 ≤ U → 0 ≤ U * a ∧ 0 ≤ U * (255 - a)) ∧ (U ≤ 0 → U * a ≤ 0 ∧ U * (255 - a) ≤ 0) := by
  refine ⟨fun h => ⟨Rat.mul_nonneg h h0, Rat.mul_nonneg h (by grind)⟩, fun h => ?_⟩
  have k1 := Rat.mul_nonneg (a := -U) (b := a) (by grind) h0
  have k2 := Rat.mul_nonneg (a := -U) (b := 255 - a) (by grind) (by grind)
  constructor <;> grind
set_option maxHeartbeats 4000000 in
theorem rt_all (X : Nat → Rat) (h9 : 0 ≤ X 9) (k9 : X 9 ≤ 255) (h10 : 0 ≤ X 10) (k10 : X 10 ≤ 255) : rt.ok X := by
  have a1 := prods (X 7 * ((X 1 + 1) * (X 4 - X 0 - X 1 - 1))) (X 9) h9 k9
  have a2 := prods (X 8 * ((X 1 + 1) * (X 4 - X 0))) (X 10) h10 k10
  refine ⟨fun h0 => ⟨fun h1 => ⟨fun h2 => ⟨fun h3 => ⟨fun h4 => ?_, fun h4 => ⟨fun h5 => ?_, fun _ => VM.RT.allYes_ok _ _ rfl⟩⟩, fun h3 => ⟨fun h4 => ⟨fun h5 => ?_, fun h5 => ⟨fun h6 => ?_, fun _ => VM.RT.allYes_ok _ _ rfl⟩⟩, fun h4 => ⟨fun h5 => ?_, fun h5 => ⟨fun h6 => ?_, fun _ => VM.RT.allYes_ok _ _ rfl⟩⟩⟩⟩, fun h2 => ⟨fun h3 => ⟨fun h4 => ⟨fun h5 => ?_, fun h5 => ⟨fun h6 => ?_, fun _ => VM.RT.allYes_ok _ _ rfl⟩⟩, fun h4 => ⟨fun h5 => ⟨fun h6 => ?_, fun h6 => ⟨fun h7 => ?_, fun _ => VM.RT.allYes_ok _ _ rfl⟩⟩, fun h5 => ⟨fun h6 => ?_, fun h6 => ⟨fun h7 => ?_, fun _ => VM.RT.allYes_ok _ _ rfl⟩⟩⟩⟩, fun h3 => ⟨fun h4 => ⟨fun h5 => ?_, fun h5 => ⟨fun h6 => ?_, fun _ => VM.RT.allYes_ok _ _ rfl⟩⟩, fun h4 => ⟨fun h5 => ⟨fun h6 => ?_, fun h6 => ⟨fun h7 => ?_, fun _ => VM.RT.allYes_ok _ _ rfl⟩⟩, fun h5 => ⟨fun h6 => ?_, fun h6 => ⟨fun h7 => ?_, fun _ => VM.RT.allYes_ok _ _ rfl⟩⟩⟩⟩⟩⟩, fun h1 => ⟨fun h2 => ⟨fun h3 => ?_, fun h3 => ⟨fun h4 => ?_, fun _ => VM.RT.allYes_ok _ _ rfl⟩⟩, fun h2 => ⟨fun h3 => ⟨fun h4 => ?_, fun h4 => ⟨fun h5 => ?_, fun _ => VM.RT.allYes_ok _ _ rfl⟩⟩, fun h3 => ⟨fun h4 => ?_, fun h4 => ⟨fun h5 => ?_, fun _ => VM.RT.allYes_ok _ _ rfl⟩⟩⟩⟩⟩, fun h0 => ⟨fun h1 => ⟨fun h2 => ⟨fun h3 => ?_, fun h3 => ⟨fun h4 => ?_, fun _ => VM.RT.allYes_ok _ _ rfl⟩⟩, fun h2 => ⟨fun h3 => ⟨fun h4 => ?_, fun h4 => ⟨fun h5 => ?_, fun _ => VM.RT.allYes_ok _ _ rfl⟩⟩, fun h3 => ⟨fun h4 => ?_, fun h4 => ⟨fun h5 => ?_, fun _ => VM.RT.allYes_ok _ _ rfl⟩⟩⟩⟩, fun _ => VM.RT.allYes_ok _ _ rfl⟩⟩
  · simp [VM.Cd.holds, VM.Pl.ev, VM.evL, VM.evM_evS, VM.FU, VM.evS, VM.powR] at h0 h1 h2 h3 h4
    grind
  · simp [VM.Cd.holds, VM.Pl.ev, VM.evL, VM.evM_evS, VM.FU, VM.evS, VM.powR] at h0 h1 h2 h3 h4 h5
    grind
  · simp [VM.Cd.holds, VM.Pl.ev, VM.evL, VM.evM_evS, VM.FU, VM.evS, VM.powR] at h0 h1 h2 h3 h4 h5
    grind
  · simp [VM.Cd.holds, VM.Pl.ev, VM.evL, VM.evM_evS, VM.FU, VM.evS, VM.powR] at h0 h1 h2 h3 h4 h5 h6
    grind
  · simp [VM.Cd.holds, VM.Pl.ev, VM.evL, VM.evM_evS, VM.FU, VM.evS, VM.powR] at h0 h1 h2 h3 h4 h5
    grind
  · simp [VM.Cd.holds, VM.Pl.ev, VM.evL, VM.evM_evS, VM.FU, VM.evS, VM.powR] at h0 h1 h2 h3 h4 h5 h6
    grind
  · simp [VM.Cd.holds, VM.Pl.ev, VM.evL, VM.evM_evS, VM.FU, VM.evS, VM.powR] at h0 h1 h2 h3 h4 h5
    grind
  · simp [VM.Cd.holds, VM.Pl.ev, VM.evL, VM.evM_evS, VM.FU, VM.evS, VM.powR] at h0 h1 h2 h3 h4 h5 h6
    grind
  · simp [VM.Cd.holds, VM.Pl.ev, VM.evL, VM.evM_evS, VM.FU, VM.evS, VM.powR] at h0 h1 h2 h3 h4 h5 h6
    grind
  · simp [VM.Cd.holds, VM.Pl.ev, VM.evL, VM.evM_evS, VM.FU, VM.evS, VM.powR] at h0 h1 h2 h3 h4 h5 h6 h7
    grind
  · simp [VM.Cd.holds, VM.Pl.ev, VM.evL, VM.evM_evS, VM.FU, VM.evS, VM.powR] at h0 h1 h2 h3 h4 h5 h6
    grind
  · simp [VM.Cd.holds, VM.Pl.ev, VM.evL, VM.evM_evS, VM.FU, VM.evS, VM.powR] at h0 h1 h2 h3 h4 h5 h6 h7
    grind
  · simp [VM.Cd.holds, VM.Pl.ev, VM.evL, VM.evM_evS, VM.FU, VM.evS, VM.powR] at h0 h1 h2 h3 h4 h5
    grind
  · simp [VM.Cd.holds, VM.Pl.ev, VM.evL, VM.evM_evS, VM.FU, VM.evS, VM.powR] at h0 h1 h2 h3 h4 h5 h6
    grind
  · simp [VM.Cd.holds, VM.Pl.ev, VM.evL, VM.evM_evS, VM.FU, VM.evS, VM.powR] at h0 h1 h2 h3 h4 h5 h6
    grind
  · simp [VM.Cd.holds, VM.Pl.ev, VM.evL, VM.evM_evS, VM.FU, VM.evS, VM.powR] at h0 h1 h2 h3 h4 h5 h6 h7
    grind
  · simp [VM.Cd.holds, VM.Pl.ev, VM.evL, VM.evM_evS, VM.FU, VM.evS, VM.powR] at h0 h1 h2 h3 h4 h5 h6
    grind
  · simp [VM.Cd.holds, VM.Pl.ev, VM.evL, VM.evM_evS, VM.FU, VM.evS, VM.powR] at h0 h1 h2 h3 h4 h5 h6 h7
    grind
  · simp [VM.Cd.holds, VM.Pl.ev, VM.evL, VM.evM_evS, VM.FU, VM.evS, VM.powR] at h0 h1 h2 h3
    grind
  · simp [VM.Cd.holds, VM.Pl.ev, VM.evL, VM.evM_evS, VM.FU, VM.evS, VM.powR] at h0 h1 h2 h3 h4
    grind
  · simp [VM.Cd.holds, VM.Pl.ev, VM.evL, VM.evM_evS, VM.FU, VM.evS, VM.powR] at h0 h1 h2 h3 h4
    grind
  · simp [VM.Cd.holds, VM.Pl.ev, VM.evL, VM.evM_evS, VM.FU, VM.evS, VM.powR] at h0 h1 h2 h3 h4 h5
    grind
  · simp [VM.Cd.holds, VM.Pl.ev, VM.evL, VM.evM_evS, VM.FU, VM.evS, VM.powR] at h0 h1 h2 h3 h4
    grind
  · simp [VM.Cd.holds, VM.Pl.ev, VM.evL, VM.evM_evS, VM.FU, VM.evS, VM.powR] at h0 h1 h2 h3 h4 h5
    grind
  · simp [VM.Cd.holds, VM.Pl.ev, VM.evL, VM.evM_evS, VM.FU, VM.evS, VM.powR] at h0 h1 h2 h3
    grind
  · simp [VM.Cd.holds, VM.Pl.ev, VM.evL, VM.evM_evS, VM.FU, VM.evS, VM.powR] at h0 h1 h2 h3 h4
    grind
  · simp [VM.Cd.holds, VM.Pl.ev, VM.evL, VM.evM_evS, VM.FU, VM.evS, VM.powR] at h0 h1 h2 h3 h4
    grind
  · simp [VM.Cd.holds, VM.Pl.ev, VM.evL, VM.evM_evS, VM.FU, VM.evS, VM.powR] at h0 h1 h2 h3 h4 h5
    grind
  · simp [VM.Cd.holds, VM.Pl.ev, VM.evL, VM.evM_evS, VM.FU, VM.evS, VM.powR] at h0 h1 h2 h3 h4
    grind
  · simp [VM.Cd.holds, VM.Pl.ev, VM.evL, VM.evM_evS, VM.FU, VM.evS, VM.powR] at h0 h1 h2 h3 h4 h5
    grind
end Go.Proofs.YtpchihhngpdblaaGreatDoor.gasAnchors
