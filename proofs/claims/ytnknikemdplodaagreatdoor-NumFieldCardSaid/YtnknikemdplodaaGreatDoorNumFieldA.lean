/- NumField: what the machine asks of it: nothing, box by box. -/
import Derived.Test.YtnknikemdplodaaGreatDoorVmLaw1
import Derived.Test.YtnknikemdplodaaGreatDoorVmRow
namespace Go.Proofs.YtnknikemdplodaaGreatDoor.numField
open Go.ChangeShapes Go.WideShapes Go.ChangeAt Go.RowKit
def args : List VM.Arg := [.row [.i64, .i64, .i64, .i64], .row [.i64, .i64, .i64, .i64], .row [.i64, .i64, .i64, .i64]]
set_option maxRecDepth 100000
abbrev bx1 : List (Int × Int) := [(-9223372036854775808, 9223372036854775807), (-9223372036854775808, 9223372036854775807), (-9223372036854775808, 9223372036854775807), (-9223372036854775808, 9223372036854775807), (-9223372036854775808, 9223372036854775807), (-9223372036854775808, 9223372036854775807), (-9223372036854775808, 9223372036854775807), (-9223372036854775808, 9223372036854775807), (-9223372036854775808, 9223372036854775807), (-9223372036854775808, 9223372036854775807), (-9223372036854775808, 9223372036854775807), (-9223372036854775808, 9223372036854775807)]
theorem run1 : (VM.simp true ((law1 60 20 4 (VM.avsOf args 0) (VM.stOf bx1)).ans) (VM.ssK bx1 [])).allYes = true := by kernel_rfl
set_option maxHeartbeats 4000000 in
theorem rt_ok (L : List Int) (hL : VM.All2 (fun (r : Int × Int) (n : Int) => r.1 ≤ n ∧ n ≤ r.2) (VM.rngsOf args) L) : ∃ R K r, VM.All2 (fun (r : Int × Int) (n : Int) => r.1 ≤ n ∧ n ≤ r.2) R L ∧ R.length ≤ VM.FU ∧ VM.KOk (VM.valX L) R.length K ∧ VM.simp true ((law1 60 20 4 (VM.avsOf args 0) (VM.stOf R)).ans) (VM.ssK R K) = r ∧ r.ok (VM.valX L) := by
  have hL : VM.All2 (fun (r : Int × Int) (n : Int) => r.1 ≤ n ∧ n ≤ r.2) [(-9223372036854775808, 9223372036854775807), (-9223372036854775808, 9223372036854775807), (-9223372036854775808, 9223372036854775807), (-9223372036854775808, 9223372036854775807), (-9223372036854775808, 9223372036854775807), (-9223372036854775808, 9223372036854775807), (-9223372036854775808, 9223372036854775807), (-9223372036854775808, 9223372036854775807), (-9223372036854775808, 9223372036854775807), (-9223372036854775808, 9223372036854775807), (-9223372036854775808, 9223372036854775807), (-9223372036854775808, 9223372036854775807)] L := hL
  match L, hL with
  | [x0, x1, x2, x3, x4, x5, x6, x7, x8, x9, x10, x11], ⟨h0, h1, h2, h3, h4, h5, h6, h7, h8, h9, h10, h11, _⟩ =>
    exact VM.box bx1 ⟨h0, h1, h2, h3, h4, h5, h6, h7, h8, h9, h10, h11, trivial⟩ (by decide) run1
end Go.Proofs.YtnknikemdplodaaGreatDoor.numField
