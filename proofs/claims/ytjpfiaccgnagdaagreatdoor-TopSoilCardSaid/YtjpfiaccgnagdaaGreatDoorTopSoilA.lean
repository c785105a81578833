/- TopSoil: nothing is asked. -/
import Derived.Test.YtjpfiaccgnagdaaGreatDoorTopSoilA1
import Derived.Test.YtjpfiaccgnagdaaGreatDoorTopSoilA2
import Derived.Test.YtjpfiaccgnagdaaGreatDoorTopSoilA3
import Derived.Test.YtjpfiaccgnagdaaGreatDoorTopSoilA4
namespace Go.Proofs.YtjpfiaccgnagdaaGreatDoor.topSoil
open Go.ChangeShapes Go.WideShapes Go.ChangeAt Go.RowKit
theorem all_ttttt : (part the [true, true, true, true, true]).allYes = true := yes_split _ [true, true, true, true, true] fork_ttttt run_tttttt run_tttttf
theorem all_tttt : (part the [true, true, true, true]).allYes = true := yes_split _ [true, true, true, true] fork_tttt all_ttttt run_ttttf
theorem all_ttt : (part the [true, true, true]).allYes = true := yes_split _ [true, true, true] fork_ttt all_tttt run_tttf
theorem all_tt : (part the [true, true]).allYes = true := yes_split _ [true, true] fork_tt all_ttt run_ttf
theorem all_t : (part the [true]).allYes = true := yes_split _ [true] fork_t all_tt run_tf
theorem all_ : (part the []).allYes = true := yes_split _ [] fork_ all_t run_f
theorem conv (h : the.allYes = true) : (VM.simp true ((top9 60 20 6 (VM.avsOf args 0) (VM.stOf bx1)).ans) (VM.ssK bx1 [])).allYes = true := by
  unfold the at h
  exact h
set_option maxRecDepth 100000
set_option maxHeartbeats 4000000 in
theorem rt_ok (L : List Int) (hL : VM.All2 (fun (r : Int × Int) (n : Int) => r.1 ≤ n ∧ n ≤ r.2) (VM.rngsOf args) L) : ∃ R K r, VM.All2 (fun (r : Int × Int) (n : Int) => r.1 ≤ n ∧ n ≤ r.2) R L ∧ R.length ≤ VM.FU ∧ VM.KOk (VM.valX L) R.length K ∧ VM.simp true ((top9 60 20 6 (VM.avsOf args 0) (VM.stOf R)).ans) (VM.ssK R K) = r ∧ r.ok (VM.valX L) := by
  have hL : VM.All2 (fun (r : Int × Int) (n : Int) => r.1 ≤ n ∧ n ≤ r.2) [(-128, 127), (-128, 127), (-128, 127), (-128, 127), (-128, 127), (-128, 127), (-128, 127), (-128, 127), (0, 255), (-128, 127)] L := hL
  match L, hL with
  | [x0, x1, x2, x3, x4, x5, x6, x7, x8, x9], ⟨h0, h1, h2, h3, h4, h5, h6, h7, h8, h9, _⟩ =>
    exact VM.box bx1 ⟨h0, h1, h2, h3, h4, h5, h6, h7, h8, h9, trivial⟩ (by decide) (conv (part_nil _ all_))
end Go.Proofs.YtjpfiaccgnagdaaGreatDoor.topSoil
