/- SonicTensors: what the machine asks of it: nothing, whichever number of the turn is the first that isn't 0. -/
import Derived.Test.YtnchikbbdfjbeaaGreatDoorVmLaw3
import Derived.Test.YtnchikbbdfjbeaaGreatDoorVmRow
namespace Go.Proofs.YtnchikbbdfjbeaaGreatDoor.sonicTensors
open Go.ChangeShapes Go.WideShapes Go.ChangeAt Go.RowKit
def args : List VM.Arg := [.row [.i64, .i64, .i64, .i64], .row [.i64, .i64, .i64, .i64, .i64, .i64, .i64, .i64, .i64, .i64, .i64, .i64, .i64, .i64, .i64, .i64, .i64, .i64]]
set_option maxRecDepth 100000
noncomputable abbrev k0 : List (VM.Cd × Bool) := [(VM.zs [0, 1, 2, 3], true), (.z (.var 0), true), (.z (.var 1), true), (.z (.var 2), true), (.z (.var 3), true)]
theorem run0 : (VM.simp true ((law3 60 20 6 (VM.avsOf args 0) (VM.stOf (VM.rngsOf args))).ans) (VM.ssK (VM.rngsOf args) k0)).allYes = true := by kernel_rfl
noncomputable abbrev k1 : List (VM.Cd × Bool) := [(VM.zs [0, 1, 2, 3], false), (.z (VM.sq4 0), false), (.z (.var 0), false)]
theorem run1 : (VM.simp true ((law3 60 20 6 (VM.avsOf args 0) (VM.stOf (VM.rngsOf args))).ans) (VM.ssK (VM.rngsOf args) k1)).allYes = true := by kernel_rfl
noncomputable abbrev k2 : List (VM.Cd × Bool) := [(VM.zs [0, 1, 2, 3], false), (.z (VM.sq4 0), false), (.z (.var 0), true), (.z (.var 1), false)]
theorem run2 : (VM.simp true ((law3 60 20 6 (VM.avsOf args 0) (VM.stOf (VM.rngsOf args))).ans) (VM.ssK (VM.rngsOf args) k2)).allYes = true := by kernel_rfl
noncomputable abbrev k3 : List (VM.Cd × Bool) := [(VM.zs [0, 1, 2, 3], false), (.z (VM.sq4 0), false), (.z (.var 0), true), (.z (.var 1), true), (.z (.var 2), false)]
theorem run3 : (VM.simp true ((law3 60 20 6 (VM.avsOf args 0) (VM.stOf (VM.rngsOf args))).ans) (VM.ssK (VM.rngsOf args) k3)).allYes = true := by kernel_rfl
noncomputable abbrev k4 : List (VM.Cd × Bool) := [(VM.zs [0, 1, 2, 3], false), (.z (VM.sq4 0), false), (.z (.var 0), true), (.z (.var 1), true), (.z (.var 2), true), (.z (.var 3), false)]
theorem run4 : (VM.simp true ((law3 60 20 6 (VM.avsOf args 0) (VM.stOf (VM.rngsOf args))).ans) (VM.ssK (VM.rngsOf args) k4)).allYes = true := by kernel_rfl
/-- A list of known conditions under which nothing is asked. -/
theorem boxK {ex : Bool} {call : VM.CallF} {f : FuncId} {al : List VM.Arg} {L : List Int} {R : List (Int × Int)} (hR : VM.All2 (fun (r : Int × Int) (n : Int) => r.1 ≤ n ∧ n ≤ r.2) R L) (hle : R.length ≤ VM.FU) (K : List (VM.Cd × Bool)) (hK : VM.KOk (VM.valX L) R.length K)
    (h : (VM.simp ex ((call f (VM.avsOf al 0) (VM.stOf R)).ans) (VM.ssK R K)).allYes = true) : ∃ R K r, VM.All2 (fun (r : Int × Int) (n : Int) => r.1 ≤ n ∧ n ≤ r.2) R L ∧ R.length ≤ VM.FU ∧ VM.KOk (VM.valX L) R.length K ∧ VM.simp ex ((call f (VM.avsOf al 0) (VM.stOf R)).ans) (VM.ssK R K) = r ∧ r.ok (VM.valX L) :=
  ⟨R, K, _, hR, hle, hK, rfl, VM.RT.allYes_ok _ _ h⟩
/-- Which number of four is the first that isn't 0. -/
theorem firstK {X : Nat → Rat} {n : Nat} (hn : n ≤ VM.FU) (l0 : 0 + 3 < n) : VM.KOk X n k0 ∨ VM.KOk X n k1 ∨ VM.KOk X n k2 ∨ VM.KOk X n k3 ∨ VM.KOk X n k4 := by
  have za : ([0, 1, 2, 3].all fun i => decide (i < n)) = true := by
    simp only [List.all_cons, List.all_nil, Bool.and_true, Bool.and_eq_true, decide_eq_true_eq]; omega
  have v : ∀ i, i < 4 → (VM.Pl.var i).ev X = X i ∧ (VM.Pl.var i).Ok n := fun i hi => VM.Pl.var_ok (by omega) hn
  have y : ∀ i, i < 4 → X i = 0 → (VM.Cd.z (VM.Pl.var i)).is X true := fun i hi e => (v i hi).1.trans e
  have z : ∀ i, i < 4 → X i ≠ 0 → (VM.Cd.z (VM.Pl.var i)).is X false := fun i hi e h => e ((v i hi).1.symm.trans h)
  have d0 : 0 < 4 := by decide
  have d1 : 1 < 4 := by decide
  have d2 : 2 < 4 := by decide
  have d3 : 3 < 4 := by decide
  by_cases h : (VM.zs [0, 1, 2, 3]).holds X
  · have g := (VM.zs_holds za hn).1 h
    exact .inl (VM.kok_cons (VM.zs_ok za hn) h (VM.kok_cons (v 0 d0).2 (y 0 d0 (g 0 (by decide))) (VM.kok_cons (v 1 d1).2 (y 1 d1 (g 1 (by decide))) (VM.kok_cons (v 2 d2).2 (y 2 d2 (g 2 (by decide))) (VM.kok_cons (v 3 d3).2 (y 3 d3 (g 3 (by decide))) VM.kok_nil)))))
  have s : ∀ K, VM.KOk X n K → VM.KOk X n ((VM.zs [0, 1, 2, 3], false) :: (.z (VM.sq4 0), false) :: K) := fun K hK => VM.kok_cons (VM.zs_ok za hn) h (VM.kok_cons (VM.sq4_ok (X := X) l0 hn).2 (VM.sq4_ne (X := X) l0 hn h) hK)
  by_cases e0 : X 0 = 0
  · by_cases e1 : X 1 = 0
    · by_cases e2 : X 2 = 0
      · by_cases e3 : X 3 = 0
        · refine absurd ((VM.zs_holds za hn).2 fun i hi => ?_) h
          simp only [List.mem_cons, List.not_mem_nil, or_false] at hi
          rcases hi with rfl | rfl | rfl | rfl
          · exact e0
          · exact e1
          · exact e2
          · exact e3
        · exact .inr (.inr (.inr (.inr (s _ (VM.kok_cons (v 0 d0).2 (y 0 d0 e0) (VM.kok_cons (v 1 d1).2 (y 1 d1 e1) (VM.kok_cons (v 2 d2).2 (y 2 d2 e2) (VM.kok_cons (v 3 d3).2 (z 3 d3 e3) VM.kok_nil))))))))
      · exact .inr (.inr (.inr (.inl (s _ (VM.kok_cons (v 0 d0).2 (y 0 d0 e0) (VM.kok_cons (v 1 d1).2 (y 1 d1 e1) (VM.kok_cons (v 2 d2).2 (z 2 d2 e2) VM.kok_nil)))))))
    · exact .inr (.inr (.inl (s _ (VM.kok_cons (v 0 d0).2 (y 0 d0 e0) (VM.kok_cons (v 1 d1).2 (z 1 d1 e1) VM.kok_nil)))))
  · exact .inr (.inl (s _ (VM.kok_cons (v 0 d0).2 (z 0 d0 e0) VM.kok_nil)))
theorem len_ok : (VM.rngsOf args).length ≤ VM.FU := of_decide_eq_true (by kernel_rfl)
theorem len_0 : 0 + 3 < (VM.rngsOf args).length := of_decide_eq_true (by kernel_rfl)
set_option maxHeartbeats 4000000 in
theorem rt_ok (L : List Int) (hL : VM.All2 (fun (r : Int × Int) (n : Int) => r.1 ≤ n ∧ n ≤ r.2) (VM.rngsOf args) L) : ∃ R K r, VM.All2 (fun (r : Int × Int) (n : Int) => r.1 ≤ n ∧ n ≤ r.2) R L ∧ R.length ≤ VM.FU ∧ VM.KOk (VM.valX L) R.length K ∧ VM.simp true ((law3 60 20 6 (VM.avsOf args 0) (VM.stOf R)).ans) (VM.ssK R K) = r ∧ r.ok (VM.valX L) := by
  rcases firstK (X := VM.valX L) len_ok len_0 with h | h | h | h | h
  · exact boxK hL len_ok k0 h run0
  · exact boxK hL len_ok k1 h run1
  · exact boxK hL len_ok k2 h run2
  · exact boxK hL len_ok k3 h run3
  · exact boxK hL len_ok k4 h run4
end Go.Proofs.YtnchikbbdfjbeaaGreatDoor.sonicTensors
