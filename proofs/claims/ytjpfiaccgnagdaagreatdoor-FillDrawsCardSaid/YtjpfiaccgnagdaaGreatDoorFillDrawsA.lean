/- FillDraws: what the machine asks of it: nothing, box by box. -/
import Derived.Test.YtjpfiaccgnagdaaGreatDoorFillDrawsA1
import Derived.Test.YtjpfiaccgnagdaaGreatDoorFillDrawsA2
import Derived.Test.YtjpfiaccgnagdaaGreatDoorFillDrawsA3
import Derived.Test.YtjpfiaccgnagdaaGreatDoorFillDrawsA4
namespace Go.Proofs.YtjpfiaccgnagdaaGreatDoor.fillDraws
open Go.ChangeShapes Go.WideShapes Go.ChangeAt Go.RowKit
set_option maxRecDepth 100000
set_option maxHeartbeats 4000000 in
theorem rt_ok (L : List Int) (hL : VM.All2 (fun (r : Int × Int) (n : Int) => r.1 ≤ n ∧ n ≤ r.2) (VM.rngsOf args) L) : ∃ R K r, VM.All2 (fun (r : Int × Int) (n : Int) => r.1 ≤ n ∧ n ≤ r.2) R L ∧ R.length ≤ VM.FU ∧ VM.KOk (VM.valX L) R.length K ∧ VM.simp false ((law8 60 20 3 (VM.avsOf args 0) (VM.stOf R)).ans) (VM.ssK R K) = r ∧ r.ok (VM.valX L) := by
  have hL : VM.All2 (fun (r : Int × Int) (n : Int) => r.1 ≤ n ∧ n ≤ r.2) [(0, 18446744073709551615), (-9223372036854775808, 9223372036854775807)] L := hL
  match L, hL with
  | [x0, x1], ⟨h0, h1, _⟩ =>
    have e1 : (-9223372036854775808 : Int) ≤ x1 ∧ x1 ≤ 9223372036854775807 := h1
    by_cases c1 : x1 < 1
    · exact VM.box bx1 ⟨h0, ⟨by omega, by omega⟩, trivial⟩ (by decide) run1
    by_cases c2 : 1048576 < x1
    · exact VM.box bx2 ⟨h0, ⟨by omega, by omega⟩, trivial⟩ (by decide) run2
    by_cases c3 : 48 < x1
    · exact VM.box bx3 ⟨h0, ⟨by omega, by omega⟩, trivial⟩ (by decide) run3
    by_cases c4 : 47 < x1
    · exact VM.box bx4 ⟨h0, ⟨by omega, by omega⟩, trivial⟩ (by decide) run4
    by_cases c5 : 46 < x1
    · exact VM.box bx5 ⟨h0, ⟨by omega, by omega⟩, trivial⟩ (by decide) run5
    by_cases c6 : 45 < x1
    · exact VM.box bx6 ⟨h0, ⟨by omega, by omega⟩, trivial⟩ (by decide) run6
    by_cases c7 : 44 < x1
    · exact VM.box bx7 ⟨h0, ⟨by omega, by omega⟩, trivial⟩ (by decide) run7
    by_cases c8 : 43 < x1
    · exact VM.box bx8 ⟨h0, ⟨by omega, by omega⟩, trivial⟩ (by decide) run8
    by_cases c9 : 42 < x1
    · exact VM.box bx9 ⟨h0, ⟨by omega, by omega⟩, trivial⟩ (by decide) run9
    by_cases c10 : 41 < x1
    · exact VM.box bx10 ⟨h0, ⟨by omega, by omega⟩, trivial⟩ (by decide) run10
    by_cases c11 : 40 < x1
    · exact VM.box bx11 ⟨h0, ⟨by omega, by omega⟩, trivial⟩ (by decide) run11
    by_cases c12 : 39 < x1
    · exact VM.box bx12 ⟨h0, ⟨by omega, by omega⟩, trivial⟩ (by decide) run12
    by_cases c13 : 38 < x1
    · exact VM.box bx13 ⟨h0, ⟨by omega, by omega⟩, trivial⟩ (by decide) run13
    by_cases c14 : 37 < x1
    · exact VM.box bx14 ⟨h0, ⟨by omega, by omega⟩, trivial⟩ (by decide) run14
    by_cases c15 : 36 < x1
    · exact VM.box bx15 ⟨h0, ⟨by omega, by omega⟩, trivial⟩ (by decide) run15
    by_cases c16 : 35 < x1
    · exact VM.box bx16 ⟨h0, ⟨by omega, by omega⟩, trivial⟩ (by decide) run16
    by_cases c17 : 34 < x1
    · exact VM.box bx17 ⟨h0, ⟨by omega, by omega⟩, trivial⟩ (by decide) run17
    by_cases c18 : 33 < x1
    · exact VM.box bx18 ⟨h0, ⟨by omega, by omega⟩, trivial⟩ (by decide) run18
    by_cases c19 : 32 < x1
    · exact VM.box bx19 ⟨h0, ⟨by omega, by omega⟩, trivial⟩ (by decide) run19
    by_cases c20 : 31 < x1
    · exact VM.box bx20 ⟨h0, ⟨by omega, by omega⟩, trivial⟩ (by decide) run20
    by_cases c21 : 30 < x1
    · exact VM.box bx21 ⟨h0, ⟨by omega, by omega⟩, trivial⟩ (by decide) run21
    by_cases c22 : 29 < x1
    · exact VM.box bx22 ⟨h0, ⟨by omega, by omega⟩, trivial⟩ (by decide) run22
    by_cases c23 : 28 < x1
    · exact VM.box bx23 ⟨h0, ⟨by omega, by omega⟩, trivial⟩ (by decide) run23
    by_cases c24 : 27 < x1
    · exact VM.box bx24 ⟨h0, ⟨by omega, by omega⟩, trivial⟩ (by decide) run24
    by_cases c25 : 26 < x1
    · exact VM.box bx25 ⟨h0, ⟨by omega, by omega⟩, trivial⟩ (by decide) run25
    by_cases c26 : 25 < x1
    · exact VM.box bx26 ⟨h0, ⟨by omega, by omega⟩, trivial⟩ (by decide) run26
    by_cases c27 : 24 < x1
    · exact VM.box bx27 ⟨h0, ⟨by omega, by omega⟩, trivial⟩ (by decide) run27
    by_cases c28 : 23 < x1
    · exact VM.box bx28 ⟨h0, ⟨by omega, by omega⟩, trivial⟩ (by decide) run28
    by_cases c29 : 22 < x1
    · exact VM.box bx29 ⟨h0, ⟨by omega, by omega⟩, trivial⟩ (by decide) run29
    by_cases c30 : 21 < x1
    · exact VM.box bx30 ⟨h0, ⟨by omega, by omega⟩, trivial⟩ (by decide) run30
    by_cases c31 : 20 < x1
    · exact VM.box bx31 ⟨h0, ⟨by omega, by omega⟩, trivial⟩ (by decide) run31
    by_cases c32 : 19 < x1
    · exact VM.box bx32 ⟨h0, ⟨by omega, by omega⟩, trivial⟩ (by decide) run32
    by_cases c33 : 18 < x1
    · exact VM.box bx33 ⟨h0, ⟨by omega, by omega⟩, trivial⟩ (by decide) run33
    by_cases c34 : 17 < x1
    · exact VM.box bx34 ⟨h0, ⟨by omega, by omega⟩, trivial⟩ (by decide) run34
    by_cases c35 : 16 < x1
    · exact VM.box bx35 ⟨h0, ⟨by omega, by omega⟩, trivial⟩ (by decide) run35
    by_cases c36 : 15 < x1
    · exact VM.box bx36 ⟨h0, ⟨by omega, by omega⟩, trivial⟩ (by decide) run36
    by_cases c37 : 14 < x1
    · exact VM.box bx37 ⟨h0, ⟨by omega, by omega⟩, trivial⟩ (by decide) run37
    by_cases c38 : 13 < x1
    · exact VM.box bx38 ⟨h0, ⟨by omega, by omega⟩, trivial⟩ (by decide) run38
    by_cases c39 : 12 < x1
    · exact VM.box bx39 ⟨h0, ⟨by omega, by omega⟩, trivial⟩ (by decide) run39
    by_cases c40 : 11 < x1
    · exact VM.box bx40 ⟨h0, ⟨by omega, by omega⟩, trivial⟩ (by decide) run40
    by_cases c41 : 10 < x1
    · exact VM.box bx41 ⟨h0, ⟨by omega, by omega⟩, trivial⟩ (by decide) run41
    by_cases c42 : 9 < x1
    · exact VM.box bx42 ⟨h0, ⟨by omega, by omega⟩, trivial⟩ (by decide) run42
    by_cases c43 : 8 < x1
    · exact VM.box bx43 ⟨h0, ⟨by omega, by omega⟩, trivial⟩ (by decide) run43
    by_cases c44 : 7 < x1
    · exact VM.box bx44 ⟨h0, ⟨by omega, by omega⟩, trivial⟩ (by decide) run44
    by_cases c45 : 6 < x1
    · exact VM.box bx45 ⟨h0, ⟨by omega, by omega⟩, trivial⟩ (by decide) run45
    by_cases c46 : 5 < x1
    · exact VM.box bx46 ⟨h0, ⟨by omega, by omega⟩, trivial⟩ (by decide) run46
    by_cases c47 : 4 < x1
    · exact VM.box bx47 ⟨h0, ⟨by omega, by omega⟩, trivial⟩ (by decide) run47
    by_cases c48 : 3 < x1
    · exact VM.box bx48 ⟨h0, ⟨by omega, by omega⟩, trivial⟩ (by decide) run48
    by_cases c49 : 2 < x1
    · exact VM.box bx49 ⟨h0, ⟨by omega, by omega⟩, trivial⟩ (by decide) run49
    by_cases c50 : 1 < x1
    · exact VM.box bx50 ⟨h0, ⟨by omega, by omega⟩, trivial⟩ (by decide) run50
    exact VM.box bx51 ⟨h0, ⟨by omega, by omega⟩, trivial⟩ (by decide) run51
end Go.Proofs.YtjpfiaccgnagdaaGreatDoor.fillDraws
