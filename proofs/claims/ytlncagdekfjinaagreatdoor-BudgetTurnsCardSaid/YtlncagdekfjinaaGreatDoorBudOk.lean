import Derived.Test.YtlncagdekfjinaaGreatDoorVmLimb
import Derived.Test.YtlncagdekfjinaaGreatDoorBud0
/- The examples that budget's laws hold up. -/
namespace Go.Proofs.YtlncagdekfjinaaGreatDoor
open Go.RowKit Go.Sort Dg Fr
theorem awake9_run : (limb 60 20 13 [] (VM.stOf [])).chk ft.txt (VM.env0 []).m VM.yesB = true := by kernel_rfl
theorem sOk_awake9 : VM.SOk ft Tryz.prog 13 sYes := sYes_ok awake9_run
end Go.Proofs.YtlncagdekfjinaaGreatDoor

/- The machine for budget's laws over known values: it keeps what the functions do. -/
namespace Go.Proofs.YtlncagdekfjinaaGreatDoor
open Go.RowKit
theorem bud.tabOk : ∀ p ∈ bud.tab, VM.SOk ft Tryz.prog p.1 p.2 := by
  intro p hp
  rcases List.mem_cons.1 hp with rfl | hp
  · exact sOk_awake9
  · cases hp
theorem bud.call_ok (N n : Nat) : VM.COk ft Tryz.prog bud.md (bud.call N n) := VM.runF_ok (VM.tab_ok bud.tabOk) (fun _ h => VM.aDraw_ok h) N n
end Go.Proofs.YtlncagdekfjinaaGreatDoor
