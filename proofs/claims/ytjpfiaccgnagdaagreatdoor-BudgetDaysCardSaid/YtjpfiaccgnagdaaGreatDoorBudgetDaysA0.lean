/- BudgetDays: how its run is cut in pieces. -/
import Derived.Test.YtjpfiaccgnagdaaGreatDoorVmTop9
import Derived.Test.YtjpfiaccgnagdaaGreatDoorVmRow
namespace Go.Proofs.YtjpfiaccgnagdaaGreatDoor.budgetDays
open Go.ChangeShapes Go.WideShapes Go.ChangeAt Go.RowKit
def args : List VM.Arg := [.row [.i16, .i16, .i16, .i16], .row [.i16, .i16, .i16, .i16], .one .i16, .row [.i8, .i8, .i8, .i8, .i8, .i8], .row [.i8, .i8, .i8, .i8, .i8, .i8], .one .u8, .one .u8]
abbrev bx1 : List (Int × Int) := [(-32768, 32767), (-32768, 32767), (-32768, 32767), (-32768, 32767), (-32768, 32767), (-32768, 32767), (-32768, 32767), (-32768, 32767), (-32768, 32767), (-128, 127), (-128, 127), (-128, 127), (-128, 127), (-128, 127), (-128, 127), (-128, 127), (-128, 127), (-128, 127), (-128, 127), (-128, 127), (-128, 127), (0, 255), (0, 255)]
/-- What stands behind some answers. -/
def part : VM.RT → List Bool → VM.RT
  | r, [] => r
  | .ask _ t f, b :: l => match b with
    | true => part t l
    | false => part f l
  | .both t f, b :: l => match b with
    | true => part t l
    | false => part f l
  | .atom _ _ _ _ t, b :: l => part t (b :: l)
  | .letter _ t, b :: l => part t (b :: l)
  | r, _ :: _ => r
/-- Something is asked there, or both are. -/
def forkAt : VM.RT → Bool
  | .ask _ _ _ => true
  | .both _ _ => true
  | .atom _ _ _ _ t => forkAt t
  | .letter _ t => forkAt t
  | _ => false
theorem part_app : ∀ (r : VM.RT) (l k : List Bool), part r (l ++ k) = part (part r l) k
  | r, [], k => by cases r <;> rfl
  | .ask _ t f, b :: l, k => by cases b <;> exact part_app _ l k
  | .both t f, b :: l, k => by cases b <;> exact part_app _ l k
  | .atom _ _ _ _ t, b :: l, k => part_app t (b :: l) k
  | .letter _ t, b :: l, k => part_app t (b :: l) k
  | .yes, _ :: _, k => by cases k <;> rfl
  | .no, _ :: _, k => by cases k <;> rfl
  | .bad _, _ :: _, k => by cases k <;> rfl
  | .goal _ _, _ :: _, k => by cases k <;> rfl
  | .need _ _ _, _ :: _, k => by cases k <;> rfl
  | .dvd _ _ _, _ :: _, k => by cases k <;> rfl
theorem yes_two : ∀ (r : VM.RT), forkAt r = true → (part r [true]).allYes = true → (part r [false]).allYes = true → r.allYes = true
  | .ask _ t f, _, h1, h2 => by
    have h1 : (part t []).allYes = true := h1
    have h2 : (part f []).allYes = true := h2
    have e : ∀ r : VM.RT, part r [] = r := fun r => by cases r <;> rfl
    rw [e] at h1 h2
    unfold VM.RT.allYes; rw [h1]; exact h2
  | .both t f, _, h1, h2 => by
    have h1 : (part t []).allYes = true := h1
    have h2 : (part f []).allYes = true := h2
    have e : ∀ r : VM.RT, part r [] = r := fun r => by cases r <;> rfl
    rw [e] at h1 h2
    unfold VM.RT.allYes; rw [h1]; exact h2
  | .atom _ _ _ _ t, h, h1, h2 => by unfold VM.RT.allYes; exact yes_two t h h1 h2
  | .letter _ t, h, h1, h2 => by unfold VM.RT.allYes; exact yes_two t h h1 h2
  | .yes, h, _, _ => nomatch h
  | .no, h, _, _ => nomatch h
  | .bad _, h, _, _ => nomatch h
  | .goal _ _, h, _, _ => nomatch h
  | .need _ _ _, h, _, _ => nomatch h
  | .dvd _ _ _, h, _, _ => nomatch h
theorem yes_split (r : VM.RT) (l : List Bool) (h : forkAt (part r l) = true) (h1 : (part r (l ++ [true])).allYes = true) (h2 : (part r (l ++ [false])).allYes = true) : (part r l).allYes = true := by
  rw [part_app] at h1 h2
  exact yes_two _ h h1 h2
theorem part_nil (r : VM.RT) (h : (part r []).allYes = true) : r.allYes = true := by
  have e : part r [] = r := by cases r <;> rfl
  rwa [e] at h
noncomputable def the : VM.RT := VM.simp true ((top9 60 20 5 (VM.avsOf args 0) (VM.stOf bx1)).ans) (VM.ssK bx1 [])
end Go.Proofs.YtjpfiaccgnagdaaGreatDoor.budgetDays
