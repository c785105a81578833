/- SonicPaths: what the machine asks of it: nothing, box by box. -/
import Derived.Test.YtnchikbbdfjbeaaGreatDoorVmLaw3
import Derived.Test.YtnchikbbdfjbeaaGreatDoorVmRow
namespace Go.Proofs.YtnchikbbdfjbeaaGreatDoor.sonicPaths
open Go.ChangeShapes Go.WideShapes Go.ChangeAt Go.RowKit
def args : List VM.Arg := [.row [.i64, .i64, .i64], .row [.i64, .i64], .row [.i64, .i64]]
set_option maxRecDepth 100000
abbrev bx1 : List (Int × Int) := [(-9223372036854775808, 0), (-9223372036854775808, 9223372036854775807), (-9223372036854775808, 9223372036854775807), (-9223372036854775808, 9223372036854775807), (-9223372036854775808, 9223372036854775807), (-9223372036854775808, 9223372036854775807), (-9223372036854775808, 9223372036854775807)]
theorem run1 : (VM.simp true ((law3 60 20 3 (VM.avsOf args 0) (VM.stOf bx1)).ans) (VM.ssK bx1 [])).allYes = true := by kernel_rfl
abbrev bx2 : List (Int × Int) := [(1000001, 9223372036854775807), (-9223372036854775808, 9223372036854775807), (-9223372036854775808, 9223372036854775807), (-9223372036854775808, 9223372036854775807), (-9223372036854775808, 9223372036854775807), (-9223372036854775808, 9223372036854775807), (-9223372036854775808, 9223372036854775807)]
theorem run2 : (VM.simp true ((law3 60 20 3 (VM.avsOf args 0) (VM.stOf bx2)).ans) (VM.ssK bx2 [])).allYes = true := by kernel_rfl
abbrev bx3 : List (Int × Int) := [(1, 1000000), (-9223372036854775808, 0), (-9223372036854775808, 9223372036854775807), (-9223372036854775808, 9223372036854775807), (-9223372036854775808, 9223372036854775807), (-9223372036854775808, 9223372036854775807), (-9223372036854775808, 9223372036854775807)]
theorem run3 : (VM.simp true ((law3 60 20 3 (VM.avsOf args 0) (VM.stOf bx3)).ans) (VM.ssK bx3 [])).allYes = true := by kernel_rfl
abbrev bx4 : List (Int × Int) := [(1, 1000000), (1073741825, 9223372036854775807), (-9223372036854775808, 9223372036854775807), (-9223372036854775808, 9223372036854775807), (-9223372036854775808, 9223372036854775807), (-9223372036854775808, 9223372036854775807), (-9223372036854775808, 9223372036854775807)]
theorem run4 : (VM.simp true ((law3 60 20 3 (VM.avsOf args 0) (VM.stOf bx4)).ans) (VM.ssK bx4 [])).allYes = true := by kernel_rfl
abbrev bx5 : List (Int × Int) := [(1, 1000000), (1, 1073741824), (-9223372036854775808, 0), (-9223372036854775808, 9223372036854775807), (-9223372036854775808, 9223372036854775807), (-9223372036854775808, 9223372036854775807), (-9223372036854775808, 9223372036854775807)]
theorem run5 : (VM.simp true ((law3 60 20 3 (VM.avsOf args 0) (VM.stOf bx5)).ans) (VM.ssK bx5 [])).allYes = true := by kernel_rfl
abbrev bx6 : List (Int × Int) := [(1, 1000000), (1, 1073741824), (1073741825, 9223372036854775807), (-9223372036854775808, 9223372036854775807), (-9223372036854775808, 9223372036854775807), (-9223372036854775808, 9223372036854775807), (-9223372036854775808, 9223372036854775807)]
theorem run6 : (VM.simp true ((law3 60 20 3 (VM.avsOf args 0) (VM.stOf bx6)).ans) (VM.ssK bx6 [])).allYes = true := by kernel_rfl
abbrev bx7 : List (Int × Int) := [(1, 1000000), (1, 1073741824), (1, 1073741824), (-9223372036854775808, 9223372036854775807), (-9223372036854775808, 9223372036854775807), (-9223372036854775808, 9223372036854775807), (-9223372036854775808, 9223372036854775807)]
theorem run7 : (VM.simp true ((law3 60 20 3 (VM.avsOf args 0) (VM.stOf bx7)).ans) (VM.ssK bx7 [])).allYes = true := by kernel_rfl
set_option maxHeartbeats 4000000 in
theorem rt_ok (L : List Int) (hL : VM.All2 (fun (r : Int × Int) (n : Int) => r.1 ≤ n ∧ n ≤ r.2) (VM.rngsOf args) L) : ∃ R K r, VM.All2 (fun (r : Int × Int) (n : Int) => r.1 ≤ n ∧ n ≤ r.2) R L ∧ R.length ≤ VM.FU ∧ VM.KOk (VM.valX L) R.length K ∧ VM.simp true ((law3 60 20 3 (VM.avsOf args 0) (VM.stOf R)).ans) (VM.ssK R K) = r ∧ r.ok (VM.valX L) := by
  have hL : VM.All2 (fun (r : Int × Int) (n : Int) => r.1 ≤ n ∧ n ≤ r.2) [(-9223372036854775808, 9223372036854775807), (-9223372036854775808, 9223372036854775807), (-9223372036854775808, 9223372036854775807), (-9223372036854775808, 9223372036854775807), (-9223372036854775808, 9223372036854775807), (-9223372036854775808, 9223372036854775807), (-9223372036854775808, 9223372036854775807)] L := hL
  match L, hL with
  | [x0, x1, x2, x3, x4, x5, x6], ⟨h0, h1, h2, h3, h4, h5, h6, _⟩ =>
    have e0 : (-9223372036854775808 : Int) ≤ x0 ∧ x0 ≤ 9223372036854775807 := h0
    have e1 : (-9223372036854775808 : Int) ≤ x1 ∧ x1 ≤ 9223372036854775807 := h1
    have e2 : (-9223372036854775808 : Int) ≤ x2 ∧ x2 ≤ 9223372036854775807 := h2
    by_cases c1 : x0 < 1
    · exact VM.box bx1 ⟨⟨by omega, by omega⟩, h1, h2, h3, h4, h5, h6, trivial⟩ (by decide) run1
    by_cases c2 : 1000000 < x0
    · exact VM.box bx2 ⟨⟨by omega, by omega⟩, h1, h2, h3, h4, h5, h6, trivial⟩ (by decide) run2
    by_cases c3 : x1 < 1
    · exact VM.box bx3 ⟨⟨by omega, by omega⟩, ⟨by omega, by omega⟩, h2, h3, h4, h5, h6, trivial⟩ (by decide) run3
    by_cases c4 : 1073741824 < x1
    · exact VM.box bx4 ⟨⟨by omega, by omega⟩, ⟨by omega, by omega⟩, h2, h3, h4, h5, h6, trivial⟩ (by decide) run4
    by_cases c5 : x2 < 1
    · exact VM.box bx5 ⟨⟨by omega, by omega⟩, ⟨by omega, by omega⟩, ⟨by omega, by omega⟩, h3, h4, h5, h6, trivial⟩ (by decide) run5
    by_cases c6 : 1073741824 < x2
    · exact VM.box bx6 ⟨⟨by omega, by omega⟩, ⟨by omega, by omega⟩, ⟨by omega, by omega⟩, h3, h4, h5, h6, trivial⟩ (by decide) run6
    exact VM.box bx7 ⟨⟨by omega, by omega⟩, ⟨by omega, by omega⟩, ⟨by omega, by omega⟩, h3, h4, h5, h6, trivial⟩ (by decide) run7
end Go.Proofs.YtnchikbbdfjbeaaGreatDoor.sonicPaths
