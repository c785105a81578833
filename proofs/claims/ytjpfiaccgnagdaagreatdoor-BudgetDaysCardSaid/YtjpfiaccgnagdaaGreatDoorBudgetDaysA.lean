/- BudgetDays: nothing is asked. -/
import Derived.Test.YtjpfiaccgnagdaaGreatDoorBudgetDaysA1
import Derived.Test.YtjpfiaccgnagdaaGreatDoorBudgetDaysA2
import Derived.Test.YtjpfiaccgnagdaaGreatDoorBudgetDaysA3
import Derived.Test.YtjpfiaccgnagdaaGreatDoorBudgetDaysA4
import Derived.Test.YtjpfiaccgnagdaaGreatDoorBudgetDaysA5
import Derived.Test.YtjpfiaccgnagdaaGreatDoorBudgetDaysA6
namespace Go.Proofs.YtjpfiaccgnagdaaGreatDoor.budgetDays
open Go.ChangeShapes Go.WideShapes Go.ChangeAt Go.RowKit
theorem all_ffttttttt : (part the [false, false, true, true, true, true, true, true, true]).allYes = true := yes_split _ [false, false, true, true, true, true, true, true, true] fork_ffttttttt run_fftttttttt run_fftttttttf
theorem all_ffftttttt : (part the [false, false, false, true, true, true, true, true, true]).allYes = true := yes_split _ [false, false, false, true, true, true, true, true, true] fork_ffftttttt run_fffttttttt run_fffttttttf
theorem all_fttttttt : (part the [false, true, true, true, true, true, true, true]).allYes = true := yes_split _ [false, true, true, true, true, true, true, true] fork_fttttttt run_ftttttttt run_ftttttttf
theorem all_fftttttt : (part the [false, false, true, true, true, true, true, true]).allYes = true := yes_split _ [false, false, true, true, true, true, true, true] fork_fftttttt all_ffttttttt run_ffttttttf
theorem all_fffttttt : (part the [false, false, false, true, true, true, true, true]).allYes = true := yes_split _ [false, false, false, true, true, true, true, true] fork_fffttttt all_ffftttttt run_ffftttttf
theorem all_ftttttt : (part the [false, true, true, true, true, true, true]).allYes = true := yes_split _ [false, true, true, true, true, true, true] fork_ftttttt all_fttttttt run_fttttttf
theorem all_ffftttt : (part the [false, false, false, true, true, true, true]).allYes = true := yes_split _ [false, false, false, true, true, true, true] fork_ffftttt all_fffttttt run_fffttttf
theorem all_ttttttt : (part the [true, true, true, true, true, true, true]).allYes = true := yes_split _ [true, true, true, true, true, true, true] fork_ttttttt run_tttttttt run_tttttttf
theorem all_ffttttt : (part the [false, false, true, true, true, true, true]).allYes = true := yes_split _ [false, false, true, true, true, true, true] fork_ffttttt all_fftttttt run_fftttttf
theorem all_fffttt : (part the [false, false, false, true, true, true]).allYes = true := yes_split _ [false, false, false, true, true, true] fork_fffttt all_ffftttt run_ffftttf
theorem all_fttttt : (part the [false, true, true, true, true, true]).allYes = true := yes_split _ [false, true, true, true, true, true] fork_fttttt all_ftttttt run_ftttttf
theorem all_tttttt : (part the [true, true, true, true, true, true]).allYes = true := yes_split _ [true, true, true, true, true, true] fork_tttttt all_ttttttt run_ttttttf
theorem all_fftttt : (part the [false, false, true, true, true, true]).allYes = true := yes_split _ [false, false, true, true, true, true] fork_fftttt all_ffttttt run_ffttttf
theorem all_ffftt : (part the [false, false, false, true, true]).allYes = true := yes_split _ [false, false, false, true, true] fork_ffftt all_fffttt run_fffttf
theorem all_ffttt : (part the [false, false, true, true, true]).allYes = true := yes_split _ [false, false, true, true, true] fork_ffttt all_fftttt run_fftttf
theorem all_ftttt : (part the [false, true, true, true, true]).allYes = true := yes_split _ [false, true, true, true, true] fork_ftttt all_fttttt run_fttttf
theorem all_ttttt : (part the [true, true, true, true, true]).allYes = true := yes_split _ [true, true, true, true, true] fork_ttttt all_tttttt run_tttttf
theorem all_fftt : (part the [false, false, true, true]).allYes = true := yes_split _ [false, false, true, true] fork_fftt all_ffttt run_ffttf
theorem all_fttt : (part the [false, true, true, true]).allYes = true := yes_split _ [false, true, true, true] fork_fttt all_ftttt run_ftttf
theorem all_ffft : (part the [false, false, false, true]).allYes = true := yes_split _ [false, false, false, true] fork_ffft all_ffftt run_ffftf
theorem all_tttt : (part the [true, true, true, true]).allYes = true := yes_split _ [true, true, true, true] fork_tttt all_ttttt run_ttttf
theorem all_ftt : (part the [false, true, true]).allYes = true := yes_split _ [false, true, true] fork_ftt all_fttt run_fttf
theorem all_fft : (part the [false, false, true]).allYes = true := yes_split _ [false, false, true] fork_fft all_fftt run_fftf
theorem all_fff : (part the [false, false, false]).allYes = true := yes_split _ [false, false, false] fork_fff all_ffft run_ffff
theorem all_ttt : (part the [true, true, true]).allYes = true := yes_split _ [true, true, true] fork_ttt all_tttt run_tttf
theorem all_ff : (part the [false, false]).allYes = true := yes_split _ [false, false] fork_ff all_fft all_fff
theorem all_ft : (part the [false, true]).allYes = true := yes_split _ [false, true] fork_ft all_ftt run_ftf
theorem all_tt : (part the [true, true]).allYes = true := yes_split _ [true, true] fork_tt all_ttt run_ttf
theorem all_t : (part the [true]).allYes = true := yes_split _ [true] fork_t all_tt run_tf
theorem all_f : (part the [false]).allYes = true := yes_split _ [false] fork_f all_ft all_ff
theorem all_ : (part the []).allYes = true := yes_split _ [] fork_ all_t all_f
theorem conv (h : the.allYes = true) : (VM.simp true ((top9 60 20 5 (VM.avsOf args 0) (VM.stOf bx1)).ans) (VM.ssK bx1 [])).allYes = true := by
  unfold the at h
  exact h
set_option maxRecDepth 100000
set_option maxHeartbeats 4000000 in
theorem rt_ok (L : List Int) (hL : VM.All2 (fun (r : Int × Int) (n : Int) => r.1 ≤ n ∧ n ≤ r.2) (VM.rngsOf args) L) : ∃ R K r, VM.All2 (fun (r : Int × Int) (n : Int) => r.1 ≤ n ∧ n ≤ r.2) R L ∧ R.length ≤ VM.FU ∧ VM.KOk (VM.valX L) R.length K ∧ VM.simp true ((top9 60 20 5 (VM.avsOf args 0) (VM.stOf R)).ans) (VM.ssK R K) = r ∧ r.ok (VM.valX L) := by
  have hL : VM.All2 (fun (r : Int × Int) (n : Int) => r.1 ≤ n ∧ n ≤ r.2) [(-32768, 32767), (-32768, 32767), (-32768, 32767), (-32768, 32767), (-32768, 32767), (-32768, 32767), (-32768, 32767), (-32768, 32767), (-32768, 32767), (-128, 127), (-128, 127), (-128, 127), (-128, 127), (-128, 127), (-128, 127), (-128, 127), (-128, 127), (-128, 127), (-128, 127), (-128, 127), (-128, 127), (0, 255), (0, 255)] L := hL
  match L, hL with
  | [x0, x1, x2, x3, x4, x5, x6, x7, x8, x9, x10, x11, x12, x13, x14, x15, x16, x17, x18, x19, x20, x21, x22], ⟨h0, h1, h2, h3, h4, h5, h6, h7, h8, h9, h10, h11, h12, h13, h14, h15, h16, h17, h18, h19, h20, h21, h22, _⟩ =>
    exact VM.box bx1 ⟨h0, h1, h2, h3, h4, h5, h6, h7, h8, h9, h10, h11, h12, h13, h14, h15, h16, h17, h18, h19, h20, h21, h22, trivial⟩ (by decide) (conv (part_nil _ all_))
end Go.Proofs.YtjpfiaccgnagdaaGreatDoor.budgetDays
