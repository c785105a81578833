/- GasCalibrates: nothing is asked. -/
import Derived.Test.YtpchihhngpdblaaGreatDoorGasCalibratesA1
import Derived.Test.YtpchihhngpdblaaGreatDoorGasCalibratesA2
import Derived.Test.YtpchihhngpdblaaGreatDoorGasCalibratesA3
import Derived.Test.YtpchihhngpdblaaGreatDoorGasCalibratesA4
namespace Go.Proofs.YtpchihhngpdblaaGreatDoor.gasCalibrates
open Go.ChangeShapes Go.WideShapes Go.ChangeAt Go.RowKit
theorem all_tttfftf : (part the [true, true, true, false, false, true, false]).allYes = true := yes_split _ [true, true, true, false, false, true, false] fork_tttfftf run_tttfftft run_tttfftff
theorem all_ttttfft : (part the [true, true, true, true, false, false, true]).allYes = true := yes_split _ [true, true, true, true, false, false, true] fork_ttttfft run_ttttfftt run_ttttfftf
theorem all_tftfftf : (part the [true, false, true, false, false, true, false]).allYes = true := yes_split _ [true, false, true, false, false, true, false] fork_tftfftf run_tftfftft run_tftfftff
theorem all_tfttfft : (part the [true, false, true, true, false, false, true]).allYes = true := yes_split _ [true, false, true, true, false, false, true] fork_tfttfft run_tfttfftt run_tfttfftf
theorem all_tttftf : (part the [true, true, true, false, true, false]).allYes = true := yes_split _ [true, true, true, false, true, false] fork_tttftf run_tttftft run_tttftff
theorem all_tftftf : (part the [true, false, true, false, true, false]).allYes = true := yes_split _ [true, false, true, false, true, false] fork_tftftf run_tftftft run_tftftff
theorem all_ttttff : (part the [true, true, true, true, false, false]).allYes = true := yes_split _ [true, true, true, true, false, false] fork_ttttff all_ttttfft run_ttttfff
theorem all_fttfft : (part the [false, true, true, false, false, true]).allYes = true := yes_split _ [false, true, true, false, false, true] fork_fttfft run_fttfftt run_fttfftf
theorem all_tfttft : (part the [true, false, true, true, false, true]).allYes = true := yes_split _ [true, false, true, true, false, true] fork_tfttft run_tfttftt run_tfttftf
theorem all_ttttft : (part the [true, true, true, true, false, true]).allYes = true := yes_split _ [true, true, true, true, false, true] fork_ttttft run_ttttftt run_ttttftf
theorem all_ftfftf : (part the [false, true, false, false, true, false]).allYes = true := yes_split _ [false, true, false, false, true, false] fork_ftfftf run_ftfftft run_ftfftff
theorem all_tttfft : (part the [true, true, true, false, false, true]).allYes = true := yes_split _ [true, true, true, false, false, true] fork_tttfft run_tttfftt all_tttfftf
theorem all_tfttff : (part the [true, false, true, true, false, false]).allYes = true := yes_split _ [true, false, true, true, false, false] fork_tfttff all_tfttfft run_tfttfff
theorem all_tftfft : (part the [true, false, true, false, false, true]).allYes = true := yes_split _ [true, false, true, false, false, true] fork_tftfft run_tftfftt all_tftfftf
theorem all_fttff : (part the [false, true, true, false, false]).allYes = true := yes_split _ [false, true, true, false, false] fork_fttff all_fttfft run_fttfff
theorem all_ftftf : (part the [false, true, false, true, false]).allYes = true := yes_split _ [false, true, false, true, false] fork_ftftf run_ftftft run_ftftff
theorem all_tttft : (part the [true, true, true, false, true]).allYes = true := yes_split _ [true, true, true, false, true] fork_tttft run_tttftt all_tttftf
theorem all_tftft : (part the [true, false, true, false, true]).allYes = true := yes_split _ [true, false, true, false, true] fork_tftft run_tftftt all_tftftf
theorem all_ttttf : (part the [true, true, true, true, false]).allYes = true := yes_split _ [true, true, true, true, false] fork_ttttf all_ttttft all_ttttff
theorem all_tttff : (part the [true, true, true, false, false]).allYes = true := yes_split _ [true, true, true, false, false] fork_tttff all_tttfft run_tttfff
theorem all_fttft : (part the [false, true, true, false, true]).allYes = true := yes_split _ [false, true, true, false, true] fork_fttft run_fttftt run_fttftf
theorem all_tftff : (part the [true, false, true, false, false]).allYes = true := yes_split _ [true, false, true, false, false] fork_tftff all_tftfft run_tftfff
theorem all_tfttf : (part the [true, false, true, true, false]).allYes = true := yes_split _ [true, false, true, true, false] fork_tfttf all_tfttft all_tfttff
theorem all_ftfft : (part the [false, true, false, false, true]).allYes = true := yes_split _ [false, true, false, false, true] fork_ftfft run_ftfftt all_ftfftf
theorem all_ftff : (part the [false, true, false, false]).allYes = true := yes_split _ [false, true, false, false] fork_ftff all_ftfft run_ftfff
theorem all_tttf : (part the [true, true, true, false]).allYes = true := yes_split _ [true, true, true, false] fork_tttf all_tttft all_tttff
theorem all_ftft : (part the [false, true, false, true]).allYes = true := yes_split _ [false, true, false, true] fork_ftft run_ftftt all_ftftf
theorem all_tftt : (part the [true, false, true, true]).allYes = true := yes_split _ [true, false, true, true] fork_tftt run_tfttt all_tfttf
theorem all_tftf : (part the [true, false, true, false]).allYes = true := yes_split _ [true, false, true, false] fork_tftf all_tftft all_tftff
theorem all_tttt : (part the [true, true, true, true]).allYes = true := yes_split _ [true, true, true, true] fork_tttt run_ttttt all_ttttf
theorem all_fttf : (part the [false, true, true, false]).allYes = true := yes_split _ [false, true, true, false] fork_fttf all_fttft all_fttff
theorem all_ttt : (part the [true, true, true]).allYes = true := yes_split _ [true, true, true] fork_ttt all_tttt all_tttf
theorem all_tft : (part the [true, false, true]).allYes = true := yes_split _ [true, false, true] fork_tft all_tftt all_tftf
theorem all_ftt : (part the [false, true, true]).allYes = true := yes_split _ [false, true, true] fork_ftt run_fttt all_fttf
theorem all_ftf : (part the [false, true, false]).allYes = true := yes_split _ [false, true, false] fork_ftf all_ftft all_ftff
theorem all_ft : (part the [false, true]).allYes = true := yes_split _ [false, true] fork_ft all_ftt all_ftf
theorem all_tf : (part the [true, false]).allYes = true := yes_split _ [true, false] fork_tf all_tft run_tff
theorem all_tt : (part the [true, true]).allYes = true := yes_split _ [true, true] fork_tt all_ttt run_ttf
theorem all_t : (part the [true]).allYes = true := yes_split _ [true] fork_t all_tt all_tf
theorem all_f : (part the [false]).allYes = true := yes_split _ [false] fork_f all_ft run_ff
theorem all_ : (part the []).allYes = true := yes_split _ [] fork_ all_t all_f
theorem conv (h : the.allYes = true) : (VM.simp true ((law4 60 20 5 (VM.avsOf args 0) (VM.stOf bx1)).ans) (VM.ssK bx1 [])).allYes = true := by
  unfold the at h
  exact h
set_option maxRecDepth 100000
set_option maxHeartbeats 4000000 in
theorem rt_ok (L : List Int) (hL : VM.All2 (fun (r : Int × Int) (n : Int) => r.1 ≤ n ∧ n ≤ r.2) (VM.rngsOf args) L) : ∃ R K r, VM.All2 (fun (r : Int × Int) (n : Int) => r.1 ≤ n ∧ n ≤ r.2) R L ∧ R.length ≤ VM.FU ∧ VM.KOk (VM.valX L) R.length K ∧ VM.simp true ((law4 60 20 5 (VM.avsOf args 0) (VM.stOf R)).ans) (VM.ssK R K) = r ∧ r.ok (VM.valX L) := by
  have hL : VM.All2 (fun (r : Int × Int) (n : Int) => r.1 ≤ n ∧ n ≤ r.2) [(-9223372036854775808, 9223372036854775807), (-9223372036854775808, 9223372036854775807), (-9223372036854775808, 9223372036854775807), (-9223372036854775808, 9223372036854775807), (-9223372036854775808, 9223372036854775807), (-9223372036854775808, 9223372036854775807), (-9223372036854775808, 9223372036854775807), (-9223372036854775808, 9223372036854775807), (-9223372036854775808, 9223372036854775807), (-9223372036854775808, 9223372036854775807), (-9223372036854775808, 9223372036854775807), (-9223372036854775808, 9223372036854775807), (-9223372036854775808, 9223372036854775807), (-9223372036854775808, 9223372036854775807)] L := hL
  match L, hL with
  | [x0, x1, x2, x3, x4, x5, x6, x7, x8, x9, x10, x11, x12, x13], ⟨h0, h1, h2, h3, h4, h5, h6, h7, h8, h9, h10, h11, h12, h13, _⟩ =>
    exact VM.box bx1 ⟨h0, h1, h2, h3, h4, h5, h6, h7, h8, h9, h10, h11, h12, h13, trivial⟩ (by decide) (conv (part_nil _ all_))
end Go.Proofs.YtpchihhngpdblaaGreatDoor.gasCalibrates
