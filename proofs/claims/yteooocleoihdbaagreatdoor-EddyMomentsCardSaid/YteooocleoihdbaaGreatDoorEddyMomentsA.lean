/- EddyMoments: nothing is asked, box by box. -/
import Derived.Test.YteooocleoihdbaaGreatDoorEddyMomentsA1
import Derived.Test.YteooocleoihdbaaGreatDoorEddyMomentsA2
import Derived.Test.YteooocleoihdbaaGreatDoorEddyMomentsA3
namespace Go.Proofs.YteooocleoihdbaaGreatDoor.eddyMoments
open Go.ChangeShapes Go.WideShapes Go.ChangeAt Go.RowKit
theorem conv {R : List (Int × Int)} (h : (the R).allYes = true) : (VM.simp true ((law5 60 20 8 (VM.avsOf args 0) (VM.stOf R)).ans) (VM.ssK R [])).allYes = true := by
  unfold the at h
  exact h
theorem all_zz : (the bx_zz).allYes = true := yes_cut _ _ cut_zz0 (end_zz)
theorem all_pp : (the bx_pp).allYes = true := yes_cut _ _ cut_pp0 (yes_cut _ _ cut_pp1 (end_pp))
set_option maxRecDepth 100000
set_option maxHeartbeats 4000000 in
theorem rt_ok (L : List Int) (hL : VM.All2 (fun (r : Int × Int) (n : Int) => r.1 ≤ n ∧ n ≤ r.2) (VM.rngsOf args) L) : ∃ R K r, VM.All2 (fun (r : Int × Int) (n : Int) => r.1 ≤ n ∧ n ≤ r.2) R L ∧ R.length ≤ VM.FU ∧ VM.KOk (VM.valX L) R.length K ∧ VM.simp true ((law5 60 20 8 (VM.avsOf args 0) (VM.stOf R)).ans) (VM.ssK R K) = r ∧ r.ok (VM.valX L) := by
  have hL : VM.All2 (fun (r : Int × Int) (n : Int) => r.1 ≤ n ∧ n ≤ r.2) (bx ff ff) L := hL
  match L, hL with
  | [x0, x1, x2, x3, x4, x5, x6, x7, x8, x9, x10, x11, x12, x13, x14, x15, x16, x17, x18, x19, x20, x21], ⟨h0, h1, h2, h3, h4, h5, h6, h7, h8, h9, h10, h11, h12, h13, h14, h15, h16, h17, h18, h19, h20, h21, _⟩ =>
    have e0 : (-9223372036854775808 : Int) ≤ x0 ∧ x0 ≤ 9223372036854775807 := h0
    have e11 : (-9223372036854775808 : Int) ≤ x11 ∧ x11 ≤ 9223372036854775807 := h11
    by_cases a1 : x0 < 0
    · exact VM.box bx_an ⟨⟨by omega, by omega⟩, h1, h2, h3, h4, h5, h6, h7, h8, h9, h10, h11, h12, h13, h14, h15, h16, h17, h18, h19, h20, h21, trivial⟩ (by decide) (conv run_an)
    by_cases a2 : 1099511627776 < x0
    · exact VM.box bx_ab ⟨⟨by omega, by omega⟩, h1, h2, h3, h4, h5, h6, h7, h8, h9, h10, h11, h12, h13, h14, h15, h16, h17, h18, h19, h20, h21, trivial⟩ (by decide) (conv run_ab)
    by_cases b1 : x11 < 0
    · exact VM.box bx_bn ⟨⟨by omega, by omega⟩, h1, h2, h3, h4, h5, h6, h7, h8, h9, h10, ⟨by omega, by omega⟩, h12, h13, h14, h15, h16, h17, h18, h19, h20, h21, trivial⟩ (by decide) (conv run_bn)
    by_cases b2 : 1099511627776 < x11
    · exact VM.box bx_bb ⟨⟨by omega, by omega⟩, h1, h2, h3, h4, h5, h6, h7, h8, h9, h10, ⟨by omega, by omega⟩, h12, h13, h14, h15, h16, h17, h18, h19, h20, h21, trivial⟩ (by decide) (conv run_bb)
    by_cases a3 : x0 < 1
    · by_cases b3 : x11 < 1
      · exact VM.box bx_zz ⟨⟨by omega, by omega⟩, h1, h2, h3, h4, h5, h6, h7, h8, h9, h10, ⟨by omega, by omega⟩, h12, h13, h14, h15, h16, h17, h18, h19, h20, h21, trivial⟩ (by decide) (conv all_zz)
      · exact VM.box bx_zp ⟨⟨by omega, by omega⟩, h1, h2, h3, h4, h5, h6, h7, h8, h9, h10, ⟨by omega, by omega⟩, h12, h13, h14, h15, h16, h17, h18, h19, h20, h21, trivial⟩ (by decide) (conv run_zp)
    by_cases b3 : x11 < 1
    · exact VM.box bx_pz ⟨⟨by omega, by omega⟩, h1, h2, h3, h4, h5, h6, h7, h8, h9, h10, ⟨by omega, by omega⟩, h12, h13, h14, h15, h16, h17, h18, h19, h20, h21, trivial⟩ (by decide) (conv run_pz)
    exact VM.box bx_pp ⟨⟨by omega, by omega⟩, h1, h2, h3, h4, h5, h6, h7, h8, h9, h10, ⟨by omega, by omega⟩, h12, h13, h14, h15, h16, h17, h18, h19, h20, h21, trivial⟩ (by decide) (conv all_pp)
end Go.Proofs.YteooocleoihdbaaGreatDoor.eddyMoments
