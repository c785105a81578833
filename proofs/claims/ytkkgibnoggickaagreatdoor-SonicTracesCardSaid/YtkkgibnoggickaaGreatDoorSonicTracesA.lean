/- SonicTraces: what the machine asks of it, and that it holds. -/
import Derived.Test.YtkkgibnoggickaaGreatDoorVmLaw3
import Derived.Test.YtkkgibnoggickaaGreatDoorVmRow
namespace Go.Proofs.YtkkgibnoggickaaGreatDoor.sonicTraces
open Go.ChangeShapes Go.WideShapes Go.ChangeAt Go.RowKit
def args : List VM.Arg := [.row [.i8, .i8, .i8, .i8], .row [.i8, .i8, .i8, .i8, .i8, .i8, .i8, .i8, .i8], .row [.i8, .i8, .i8], .row [.i8, .i8, .i8]]
def rt1 : VM.RT := .yes
theorem run1 : VM.simp false ((law3 60 20 7 (VM.avsOf args 0) (VM.stOf (VM.rngsOf args))).ans) (VM.ssK (VM.rngsOf args) [(VM.zs [0, 1, 2, 3], true)]) = rt1 := by kernel_rfl
def rt2 : VM.RT := .yes
theorem run2 : VM.simp false ((law3 60 20 7 (VM.avsOf args 0) (VM.stOf (VM.rngsOf args))).ans) (VM.ssK (VM.rngsOf args) [(VM.zs [0, 1, 2, 3], false), (.z (VM.sq4 0), false)]) = rt2 := by kernel_rfl
theorem rt_ok (L : List Int) (_hL : VM.All2 (fun (r : Int × Int) (n : Int) => r.1 ≤ n ∧ n ≤ r.2) (VM.rngsOf args) L) : ∃ K r, VM.KOk (VM.valX L) (VM.rngsOf args).length K ∧ VM.simp false ((law3 60 20 7 (VM.avsOf args 0) (VM.stOf (VM.rngsOf args))).ans) (VM.ssK (VM.rngsOf args) K) = r ∧ r.ok (VM.valX L) := by
  have hn : (VM.rngsOf args).length ≤ VM.FU := of_decide_eq_true (by kernel_rfl)
  have za : ([0, 1, 2, 3].all fun i => decide (i < (VM.rngsOf args).length)) = true := by kernel_rfl
  have l0 : 0 + 3 < (VM.rngsOf args).length := of_decide_eq_true (by kernel_rfl)
  generalize VM.valX L = X
  by_cases h : (VM.zs [0, 1, 2, 3]).holds X
  · exact ⟨[(VM.zs [0, 1, 2, 3], true)], rt1, VM.kok_cons (VM.zs_ok za hn) h VM.kok_nil, run1, trivial⟩
  · exact ⟨[(VM.zs [0, 1, 2, 3], false), (.z (VM.sq4 0), false)], rt2, VM.kok_cons (VM.zs_ok za hn) h (VM.kok_cons (VM.sq4_ok (X := X) l0 hn).2 (VM.sq4_ne (X := X) l0 hn h) VM.kok_nil), run2, trivial⟩
end Go.Proofs.YtkkgibnoggickaaGreatDoor.sonicTraces
