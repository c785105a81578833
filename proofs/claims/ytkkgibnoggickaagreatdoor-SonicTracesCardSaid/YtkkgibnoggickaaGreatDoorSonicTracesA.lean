/- SonicTraces: what the machine asks of it, and that it holds. -/
import Derived.Test.YtkkgibnoggickaaGreatDoorVmLaw3
import Derived.Test.YtkkgibnoggickaaGreatDoorVmRow
namespace Go.Proofs.YtkkgibnoggickaaGreatDoor.sonicTraces
open Go.ChangeShapes Go.WideShapes Go.ChangeAt Go.RowKit
def args : List VM.Arg := [.row [.i8, .i8, .i8, .i8], .row [.i8, .i8, .i8, .i8, .i8, .i8, .i8, .i8, .i8], .row [.i8, .i8, .i8], .row [.i8, .i8, .i8]]
def rt1 : VM.RT := .yes
theorem run1 : VM.simp false ((law3 60 20 7 (VM.avsOf args 0) (VM.stOf (VM.rngsOf args))).ans) (VM.ssK (VM.rngsOf args) [(VM.zs [0, 1, 2, 3], true)]) = rt1 := by kernel_rfl
def rt2 : VM.RT := (.ask (.z ⟨2, [(33554432, 1), (131072, 1), (512, 1), (2, 1)]⟩) (.ask (.z ⟨1, [(79228162514264337593543950336, -1), (18446744073709551616, -1), (4294967296, -1)]⟩) .yes .no) .yes)
theorem run2 : VM.simp false ((law3 60 20 7 (VM.avsOf args 0) (VM.stOf (VM.rngsOf args))).ans) (VM.ssK (VM.rngsOf args) [(VM.zs [0, 1, 2, 3], false)]) = rt2 := by kernel_rfl
theorem rt_ok (L : List Int) (_hL : VM.All2 (fun (r : Int × Int) (n : Int) => r.1 ≤ n ∧ n ≤ r.2) (VM.rngsOf args) L) : ∃ K r, VM.KOk (VM.valX L) (VM.rngsOf args).length K ∧ VM.simp false ((law3 60 20 7 (VM.avsOf args 0) (VM.stOf (VM.rngsOf args))).ans) (VM.ssK (VM.rngsOf args) K) = r ∧ r.ok (VM.valX L) := by
  have hn : (VM.rngsOf args).length ≤ VM.FU := of_decide_eq_true (by kernel_rfl)
  have hz4 : ([0, 1, 2, 3].all fun i => decide (i < (VM.rngsOf args).length)) = true := by kernel_rfl
  by_cases h : (VM.zs [0, 1, 2, 3]).holds (VM.valX L)
  · exact ⟨[(VM.zs [0, 1, 2, 3], true)], rt1, VM.kok_cons (VM.zs_ok hz4 hn) h VM.kok_nil, run1, trivial⟩
  · refine ⟨[(VM.zs [0, 1, 2, 3], false)], rt2, VM.kok_cons (VM.zs_ok hz4 hn) h VM.kok_nil, run2, ?_⟩
    refine ⟨fun hz => ?_, fun _ => trivial⟩
    exfalso
    apply h
    rw [VM.zs_holds hz4 hn]
    generalize VM.valX L = X at hz ⊢
    simp [VM.Cd.holds, VM.Pl.ev, VM.evL, VM.evM_evS, VM.FU, VM.evS, VM.powR] at hz
    have h4 := VM.sq4_zero (a := X 3) (b := X 2) (c := X 1) (d := X 0) (by grind)
    intro i hi
    simp at hi
    rcases hi with rfl | rfl | rfl | rfl
    · exact h4.2.2.2
    · exact h4.2.2.1
    · exact h4.2.1
    · exact h4.1
end Go.Proofs.YtkkgibnoggickaaGreatDoor.sonicTraces
