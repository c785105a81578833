/- EddyMoments: the boxes, and how a run is cut in pieces. -/
import Derived.Test.YteooocleoihdbaaGreatDoorVmLaw5
import Derived.Test.YteooocleoihdbaaGreatDoorVmRow
namespace Go.Proofs.YteooocleoihdbaaGreatDoor.eddyMoments
open Go.ChangeShapes Go.WideShapes Go.ChangeAt Go.RowKit
def args : List VM.Arg := [.row [.i64, .i64, .i64, .i64, .i64, .i64, .i64, .i64, .i64, .i64, .i64], .row [.i64, .i64, .i64, .i64, .i64, .i64, .i64, .i64, .i64, .i64, .i64]]
/-- What stands behind some answers. -/
def part : VM.RT → List Bool → VM.RT
  | r, [] => r
  | .ask _ t f, b :: l => match b with
    | true => part t l
    | false => part f l
  | .atom _ _ _ _ t, b :: l => part t (b :: l)
  | .letter _ t, b :: l => part t (b :: l)
  | r, _ :: _ => r
/-- Nothing is asked beside that. -/
def beside : VM.RT → List Bool → Bool
  | _, [] => true
  | .ask _ t f, b :: l => match b with
    | true => match beside t l with
      | true => f.allYes
      | false => false
    | false => match beside f l with
      | true => t.allYes
      | false => false
  | .atom _ _ _ _ t, b :: l => beside t (b :: l)
  | .letter _ t, b :: l => beside t (b :: l)
  | _, _ :: _ => false
theorem yes_cut : ∀ (r : VM.RT) (l : List Bool), beside r l = true → (part r l).allYes = true → r.allYes = true
  | .ask _ t f, b :: l, h, k => by
    unfold beside at h
    unfold part at k
    unfold VM.RT.allYes
    cases b with
    | true =>
      simp only at h k
      split at h
      · rename_i h1; rw [yes_cut t l h1 k]; exact h
      · cases h
    | false =>
      simp only at h k
      split at h
      · rename_i h1; rw [h, yes_cut f l h1 k]
      · cases h
  | .atom _ _ _ _ t, b :: l, h, k => by
    unfold VM.RT.allYes
    exact yes_cut t (b :: l) (by unfold beside at h; exact h) (by unfold part at k; exact k)
  | .letter _ t, b :: l, h, k => by
    unfold VM.RT.allYes
    exact yes_cut t (b :: l) (by unfold beside at h; exact h) (by unfold part at k; exact k)
  | r, [], _, k => by
    cases r <;> exact k
  | .yes, _ :: _, h, _ => nomatch h
  | .no, _ :: _, h, _ => nomatch h
  | .bad _, _ :: _, h, _ => nomatch h
  | .goal _ _, _ :: _, h, _ => nomatch h
  | .need _ _ _, _ :: _, h, _ => nomatch h
  | .dvd _ _ _, _ :: _, h, _ => nomatch h
noncomputable def the (R : List (Int × Int)) : VM.RT := VM.simp true ((law5 60 20 8 (VM.avsOf args 0) (VM.stOf R)).ans) (VM.ssK R [])
abbrev ff : Int × Int := (-9223372036854775808, 9223372036854775807)
abbrev bx (a b : Int × Int) : List (Int × Int) := [a, ff, ff, ff, ff, ff, ff, ff, ff, ff, ff, b, ff, ff, ff, ff, ff, ff, ff, ff, ff, ff]
abbrev bx_an : List (Int × Int) := bx (-9223372036854775808, -1) (-9223372036854775808, 9223372036854775807)
abbrev bx_ab : List (Int × Int) := bx (1099511627777, 9223372036854775807) (-9223372036854775808, 9223372036854775807)
abbrev bx_bn : List (Int × Int) := bx (0, 1099511627776) (-9223372036854775808, -1)
abbrev bx_bb : List (Int × Int) := bx (0, 1099511627776) (1099511627777, 9223372036854775807)
abbrev bx_zz : List (Int × Int) := bx (0, 0) (0, 0)
abbrev bx_zp : List (Int × Int) := bx (0, 0) (1, 1099511627776)
abbrev bx_pz : List (Int × Int) := bx (1, 1099511627776) (0, 0)
abbrev bx_pp : List (Int × Int) := bx (1, 1099511627776) (1, 1099511627776)
end Go.Proofs.YteooocleoihdbaaGreatDoor.eddyMoments
