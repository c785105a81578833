/- SpectraGains: nothing is asked, box by box. -/
import Derived.Test.YtbdgjnjpckhpfaaGreatDoorSpectraGainsA1
import Derived.Test.YtbdgjnjpckhpfaaGreatDoorSpectraGainsA2
import Derived.Test.YtbdgjnjpckhpfaaGreatDoorSpectraGainsA3
import Derived.Test.YtbdgjnjpckhpfaaGreatDoorSpectraGainsA4
namespace Go.Proofs.YtbdgjnjpckhpfaaGreatDoor.spectraGains
open Go.ChangeShapes Go.WideShapes Go.ChangeAt Go.RowKit
set_option maxRecDepth 100000
set_option maxHeartbeats 4000000 in
theorem rt_ok (L : List Int) (hL : VM.All2 (fun (r : Int × Int) (n : Int) => r.1 ≤ n ∧ n ≤ r.2) (VM.rngsOf args) L) : ∃ R K r, VM.All2 (fun (r : Int × Int) (n : Int) => r.1 ≤ n ∧ n ≤ r.2) R L ∧ R.length ≤ VM.FU ∧ VM.KOk (VM.valX L) R.length K ∧ VM.simp true ((law6 60 20 3 (VM.avsOf args 0) (VM.stOf R)).ans) (VM.ssK R K) = r ∧ r.ok (VM.valX L) := by
  have hL : VM.All2 (fun (r : Int × Int) (n : Int) => r.1 ≤ n ∧ n ≤ r.2) [(0, 255), (0, 255), (0, 255), (0, 255), (0, 255)] L := hL
  match L, hL with
  | [x0, x1, x2, x3, x4], ⟨h0, h1, h2, h3, h4, _⟩ =>
    have e0 : (0 : Int) ≤ x0 ∧ x0 ≤ 255 := h0
    have e1 : (0 : Int) ≤ x1 ∧ x1 ≤ 255 := h1
    have e2 : (0 : Int) ≤ x2 ∧ x2 ≤ 255 := h2
    have e3 : (0 : Int) ≤ x3 ∧ x3 ≤ 255 := h3
    have e4 : (0 : Int) ≤ x4 ∧ x4 ≤ 255 := h4
    by_cases c0 : x0 < 1
    · by_cases c1 : x1 < 1
      · by_cases c2 : x2 < 1
        · by_cases c3 : x3 < 1
          · by_cases c4 : x4 < 1
            · exact VM.box bx1 ⟨⟨by omega, by omega⟩, ⟨by omega, by omega⟩, ⟨by omega, by omega⟩, ⟨by omega, by omega⟩, ⟨by omega, by omega⟩, trivial⟩ (by decide) run1
            · exact VM.box bx2 ⟨⟨by omega, by omega⟩, ⟨by omega, by omega⟩, ⟨by omega, by omega⟩, ⟨by omega, by omega⟩, ⟨by omega, by omega⟩, trivial⟩ (by decide) run2
          · by_cases c4 : x4 < 1
            · exact VM.box bx3 ⟨⟨by omega, by omega⟩, ⟨by omega, by omega⟩, ⟨by omega, by omega⟩, ⟨by omega, by omega⟩, ⟨by omega, by omega⟩, trivial⟩ (by decide) run3
            · exact VM.box bx4 ⟨⟨by omega, by omega⟩, ⟨by omega, by omega⟩, ⟨by omega, by omega⟩, ⟨by omega, by omega⟩, ⟨by omega, by omega⟩, trivial⟩ (by decide) run4
        · by_cases c3 : x3 < 1
          · by_cases c4 : x4 < 1
            · exact VM.box bx5 ⟨⟨by omega, by omega⟩, ⟨by omega, by omega⟩, ⟨by omega, by omega⟩, ⟨by omega, by omega⟩, ⟨by omega, by omega⟩, trivial⟩ (by decide) run5
            · exact VM.box bx6 ⟨⟨by omega, by omega⟩, ⟨by omega, by omega⟩, ⟨by omega, by omega⟩, ⟨by omega, by omega⟩, ⟨by omega, by omega⟩, trivial⟩ (by decide) run6
          · by_cases c4 : x4 < 1
            · exact VM.box bx7 ⟨⟨by omega, by omega⟩, ⟨by omega, by omega⟩, ⟨by omega, by omega⟩, ⟨by omega, by omega⟩, ⟨by omega, by omega⟩, trivial⟩ (by decide) run7
            · exact VM.box bx8 ⟨⟨by omega, by omega⟩, ⟨by omega, by omega⟩, ⟨by omega, by omega⟩, ⟨by omega, by omega⟩, ⟨by omega, by omega⟩, trivial⟩ (by decide) run8
      · by_cases c2 : x2 < 1
        · by_cases c3 : x3 < 1
          · by_cases c4 : x4 < 1
            · exact VM.box bx9 ⟨⟨by omega, by omega⟩, ⟨by omega, by omega⟩, ⟨by omega, by omega⟩, ⟨by omega, by omega⟩, ⟨by omega, by omega⟩, trivial⟩ (by decide) run9
            · exact VM.box bx10 ⟨⟨by omega, by omega⟩, ⟨by omega, by omega⟩, ⟨by omega, by omega⟩, ⟨by omega, by omega⟩, ⟨by omega, by omega⟩, trivial⟩ (by decide) run10
          · by_cases c4 : x4 < 1
            · exact VM.box bx11 ⟨⟨by omega, by omega⟩, ⟨by omega, by omega⟩, ⟨by omega, by omega⟩, ⟨by omega, by omega⟩, ⟨by omega, by omega⟩, trivial⟩ (by decide) run11
            · exact VM.box bx12 ⟨⟨by omega, by omega⟩, ⟨by omega, by omega⟩, ⟨by omega, by omega⟩, ⟨by omega, by omega⟩, ⟨by omega, by omega⟩, trivial⟩ (by decide) run12
        · by_cases c3 : x3 < 1
          · by_cases c4 : x4 < 1
            · exact VM.box bx13 ⟨⟨by omega, by omega⟩, ⟨by omega, by omega⟩, ⟨by omega, by omega⟩, ⟨by omega, by omega⟩, ⟨by omega, by omega⟩, trivial⟩ (by decide) run13
            · exact VM.box bx14 ⟨⟨by omega, by omega⟩, ⟨by omega, by omega⟩, ⟨by omega, by omega⟩, ⟨by omega, by omega⟩, ⟨by omega, by omega⟩, trivial⟩ (by decide) run14
          · by_cases c4 : x4 < 1
            · exact VM.box bx15 ⟨⟨by omega, by omega⟩, ⟨by omega, by omega⟩, ⟨by omega, by omega⟩, ⟨by omega, by omega⟩, ⟨by omega, by omega⟩, trivial⟩ (by decide) run15
            · exact VM.box bx16 ⟨⟨by omega, by omega⟩, ⟨by omega, by omega⟩, ⟨by omega, by omega⟩, ⟨by omega, by omega⟩, ⟨by omega, by omega⟩, trivial⟩ (by decide) run16
    · by_cases c1 : x1 < 1
      · by_cases c2 : x2 < 1
        · by_cases c3 : x3 < 1
          · by_cases c4 : x4 < 1
            · exact VM.box bx17 ⟨⟨by omega, by omega⟩, ⟨by omega, by omega⟩, ⟨by omega, by omega⟩, ⟨by omega, by omega⟩, ⟨by omega, by omega⟩, trivial⟩ (by decide) run17
            · exact VM.box bx18 ⟨⟨by omega, by omega⟩, ⟨by omega, by omega⟩, ⟨by omega, by omega⟩, ⟨by omega, by omega⟩, ⟨by omega, by omega⟩, trivial⟩ (by decide) run18
          · by_cases c4 : x4 < 1
            · exact VM.box bx19 ⟨⟨by omega, by omega⟩, ⟨by omega, by omega⟩, ⟨by omega, by omega⟩, ⟨by omega, by omega⟩, ⟨by omega, by omega⟩, trivial⟩ (by decide) run19
            · exact VM.box bx20 ⟨⟨by omega, by omega⟩, ⟨by omega, by omega⟩, ⟨by omega, by omega⟩, ⟨by omega, by omega⟩, ⟨by omega, by omega⟩, trivial⟩ (by decide) run20
        · by_cases c3 : x3 < 1
          · by_cases c4 : x4 < 1
            · exact VM.box bx21 ⟨⟨by omega, by omega⟩, ⟨by omega, by omega⟩, ⟨by omega, by omega⟩, ⟨by omega, by omega⟩, ⟨by omega, by omega⟩, trivial⟩ (by decide) run21
            · exact VM.box bx22 ⟨⟨by omega, by omega⟩, ⟨by omega, by omega⟩, ⟨by omega, by omega⟩, ⟨by omega, by omega⟩, ⟨by omega, by omega⟩, trivial⟩ (by decide) run22
          · by_cases c4 : x4 < 1
            · exact VM.box bx23 ⟨⟨by omega, by omega⟩, ⟨by omega, by omega⟩, ⟨by omega, by omega⟩, ⟨by omega, by omega⟩, ⟨by omega, by omega⟩, trivial⟩ (by decide) run23
            · exact VM.box bx24 ⟨⟨by omega, by omega⟩, ⟨by omega, by omega⟩, ⟨by omega, by omega⟩, ⟨by omega, by omega⟩, ⟨by omega, by omega⟩, trivial⟩ (by decide) run24
      · by_cases c2 : x2 < 1
        · by_cases c3 : x3 < 1
          · by_cases c4 : x4 < 1
            · exact VM.box bx25 ⟨⟨by omega, by omega⟩, ⟨by omega, by omega⟩, ⟨by omega, by omega⟩, ⟨by omega, by omega⟩, ⟨by omega, by omega⟩, trivial⟩ (by decide) run25
            · exact VM.box bx26 ⟨⟨by omega, by omega⟩, ⟨by omega, by omega⟩, ⟨by omega, by omega⟩, ⟨by omega, by omega⟩, ⟨by omega, by omega⟩, trivial⟩ (by decide) run26
          · by_cases c4 : x4 < 1
            · exact VM.box bx27 ⟨⟨by omega, by omega⟩, ⟨by omega, by omega⟩, ⟨by omega, by omega⟩, ⟨by omega, by omega⟩, ⟨by omega, by omega⟩, trivial⟩ (by decide) run27
            · exact VM.box bx28 ⟨⟨by omega, by omega⟩, ⟨by omega, by omega⟩, ⟨by omega, by omega⟩, ⟨by omega, by omega⟩, ⟨by omega, by omega⟩, trivial⟩ (by decide) run28
        · by_cases c3 : x3 < 1
          · by_cases c4 : x4 < 1
            · exact VM.box bx29 ⟨⟨by omega, by omega⟩, ⟨by omega, by omega⟩, ⟨by omega, by omega⟩, ⟨by omega, by omega⟩, ⟨by omega, by omega⟩, trivial⟩ (by decide) run29
            · exact VM.box bx30 ⟨⟨by omega, by omega⟩, ⟨by omega, by omega⟩, ⟨by omega, by omega⟩, ⟨by omega, by omega⟩, ⟨by omega, by omega⟩, trivial⟩ (by decide) run30
          · by_cases c4 : x4 < 1
            · exact VM.box bx31 ⟨⟨by omega, by omega⟩, ⟨by omega, by omega⟩, ⟨by omega, by omega⟩, ⟨by omega, by omega⟩, ⟨by omega, by omega⟩, trivial⟩ (by decide) run31
            · exact VM.box bx32 ⟨⟨by omega, by omega⟩, ⟨by omega, by omega⟩, ⟨by omega, by omega⟩, ⟨by omega, by omega⟩, ⟨by omega, by omega⟩, trivial⟩ (by decide) run32
end Go.Proofs.YtbdgjnjpckhpfaaGreatDoor.spectraGains
