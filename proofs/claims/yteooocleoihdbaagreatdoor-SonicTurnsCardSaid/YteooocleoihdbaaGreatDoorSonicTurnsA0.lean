/- SonicTurns: the table, the cases, and the run where the first turn is 0. -/
import Derived.Test.YteooocleoihdbaaGreatDoorVmLaw3
import Derived.Test.YteooocleoihdbaaGreatDoorVmRow
import Derived.Test.YteooocleoihdbaaGreatDoorSonD
namespace Go.Proofs.YteooocleoihdbaaGreatDoor
open Go.ChangeShapes Go.WideShapes Go.ChangeAt Go.RowKit
theorem sOk_divisor3 : VM.SOk ft Tryz.prog 81 VM.sGcd := VM.sGcd_ok (fun w a b h0 h1 k0 k1 => Calls.mono (refDivisor3_any a b h0 h1 k0 k1 w) (fun _ _ h => by
  obtain ⟨h, q, rfl⟩ := h
  exact ⟨h, below_drewN (Below.refl _ _) q⟩))
noncomputable def law3TTab : List (FuncId × (List VM.AV → VM.St → VM.Tree (VM.TV × VM.St))) := (81, VM.sGcd) :: law3Tab
theorem law3TTab_ok : ∀ p ∈ law3TTab, VM.SOk ft Tryz.prog p.1 p.2 := by
  intro p hp
  rcases List.mem_cons.1 hp with rfl | hp
  · exact sOk_divisor3
  · exact law3Tab_ok p hp
noncomputable def law3T (N n : Nat) : VM.CallF := VM.runF Tryz.prog (VM.look law3TTab) md (fun c => VM.aDraw Tryz.prog md c) N n
theorem law3T_ok (N n : Nat) : VM.COk ft Tryz.prog md (law3T N n) := VM.runF_ok (VM.tab_ok law3TTab_ok) (fun _ h => VM.aDraw_ok h) N n
end Go.Proofs.YteooocleoihdbaaGreatDoor
namespace Go.Proofs.YteooocleoihdbaaGreatDoor.sonicTurns
open Go.ChangeShapes Go.WideShapes Go.ChangeAt Go.RowKit
def args : List VM.Arg := [.row [.i64, .i64, .i64, .i64], .row [.i64, .i64, .i64, .i64], .row [.i64, .i64, .i64, .i64, .i64, .i64]]
abbrev Ks := List (VM.Cd × Bool)
noncomputable def kz (o : Nat) : Ks := [(VM.zs [o, o + 1, o + 2, o + 3], true), (.z (.var o), true), (.z (.var (o + 1)), true), (.z (.var (o + 2)), true), (.z (.var (o + 3)), true)]
noncomputable def kn (o : Nat) (K : Ks) : Ks := (VM.zs [o, o + 1, o + 2, o + 3], false) :: (.z (VM.sq4 o), false) :: K
noncomputable def k0 (o : Nat) : Ks := kn o [(.z (.var o), false)]
noncomputable def k1 (o : Nat) : Ks := kn o [(.z (.var o), true), (.z (.var (o + 1)), false)]
noncomputable def k2 (o : Nat) : Ks := kn o [(.z (.var o), true), (.z (.var (o + 1)), true), (.z (.var (o + 2)), false)]
noncomputable def k3 (o : Nat) : Ks := kn o [(.z (.var o), true), (.z (.var (o + 1)), true), (.z (.var (o + 2)), true), (.z (.var (o + 3)), false)]
noncomputable def kq : Ks := [(.al VM.quatP, false)]
theorem kok_app {X : Nat → Rat} {n : Nat} {K L : Ks} (h : VM.KOk X n K) (k : VM.KOk X n L) : VM.KOk X n (K ++ L) := fun x hx => (List.mem_append.1 hx).elim (h x) (k x)
/-- Which number of four is the first that isn't 0. -/
theorem first4 {X : Nat → Rat} {n : Nat} (hn : n ≤ VM.FU) (o : Nat) (l0 : o + 3 < n) : ((VM.zs [o, o + 1, o + 2, o + 3]).holds X ∧ VM.KOk X n (kz o)) ∨ (¬ (VM.zs [o, o + 1, o + 2, o + 3]).holds X ∧ (VM.KOk X n (k0 o) ∨ VM.KOk X n (k1 o) ∨ VM.KOk X n (k2 o) ∨ VM.KOk X n (k3 o))) := by
  have za : ([o, o + 1, o + 2, o + 3].all fun i => decide (i < n)) = true := by
    simp only [List.all_cons, List.all_nil, Bool.and_true, Bool.and_eq_true, decide_eq_true_eq]; omega
  have v : ∀ i, i ≤ o + 3 → (VM.Pl.var i).ev X = X i ∧ (VM.Pl.var i).Ok n := fun i hi => VM.Pl.var_ok (by omega) hn
  have y : ∀ i, i ≤ o + 3 → X i = 0 → (VM.Cd.z (VM.Pl.var i)).is X true := fun i hi e => (v i hi).1.trans e
  have z : ∀ i, i ≤ o + 3 → X i ≠ 0 → (VM.Cd.z (VM.Pl.var i)).is X false := fun i hi e h => e ((v i hi).1.symm.trans h)
  have d0 : o ≤ o + 3 := by omega
  have d1 : o + 1 ≤ o + 3 := by omega
  have d2 : o + 2 ≤ o + 3 := by omega
  have d3 : o + 3 ≤ o + 3 := by omega
  by_cases h : (VM.zs [o, o + 1, o + 2, o + 3]).holds X
  · have g := (VM.zs_holds za hn).1 h
    exact .inl ⟨h, VM.kok_cons (VM.zs_ok za hn) h (VM.kok_cons (v _ d0).2 (y _ d0 (g _ (by simp))) (VM.kok_cons (v _ d1).2 (y _ d1 (g _ (by simp))) (VM.kok_cons (v _ d2).2 (y _ d2 (g _ (by simp))) (VM.kok_cons (v _ d3).2 (y _ d3 (g _ (by simp))) VM.kok_nil))))⟩
  refine .inr ⟨h, ?_⟩
  have s : ∀ K, VM.KOk X n K → VM.KOk X n (kn o K) := fun K hK => VM.kok_cons (VM.zs_ok za hn) h (VM.kok_cons (VM.sq4_ok (X := X) l0 hn).2 (VM.sq4_ne (X := X) l0 hn h) hK)
  by_cases e0 : X o = 0
  · by_cases e1 : X (o + 1) = 0
    · by_cases e2 : X (o + 2) = 0
      · by_cases e3 : X (o + 3) = 0
        · refine absurd ((VM.zs_holds za hn).2 fun i hi => ?_) h
          simp only [List.mem_cons, List.not_mem_nil, or_false] at hi
          rcases hi with rfl | rfl | rfl | rfl
          · exact e0
          · exact e1
          · exact e2
          · exact e3
        · exact .inr (.inr (.inr (s _ (VM.kok_cons (v _ d0).2 (y _ d0 e0) (VM.kok_cons (v _ d1).2 (y _ d1 e1) (VM.kok_cons (v _ d2).2 (y _ d2 e2) (VM.kok_cons (v _ d3).2 (z _ d3 e3) VM.kok_nil)))))))
      · exact .inr (.inr (.inl (s _ (VM.kok_cons (v _ d0).2 (y _ d0 e0) (VM.kok_cons (v _ d1).2 (y _ d1 e1) (VM.kok_cons (v _ d2).2 (z _ d2 e2) VM.kok_nil))))))
    · exact .inr (.inl (s _ (VM.kok_cons (v _ d0).2 (y _ d0 e0) (VM.kok_cons (v _ d1).2 (z _ d1 e1) VM.kok_nil))))
  · exact .inl (s _ (VM.kok_cons (v _ d0).2 (z _ d0 e0) VM.kok_nil))
/-- A list of known conditions under which nothing is asked. -/
theorem boxK {ex : Bool} {call : VM.CallF} {f : FuncId} {al : List VM.Arg} {L : List Int} {R : List (Int × Int)} (hR : VM.All2 (fun (r : Int × Int) (n : Int) => r.1 ≤ n ∧ n ≤ r.2) R L) (hle : R.length ≤ VM.FU) (K : Ks) (hK : VM.KOk (VM.valX L) R.length K)
    (h : (VM.simp ex ((call f (VM.avsOf al 0) (VM.stOf R)).ans) (VM.ssK R K)).allYes = true) : ∃ R K r, VM.All2 (fun (r : Int × Int) (n : Int) => r.1 ≤ n ∧ n ≤ r.2) R L ∧ R.length ≤ VM.FU ∧ VM.KOk (VM.valX L) R.length K ∧ VM.simp ex ((call f (VM.avsOf al 0) (VM.stOf R)).ans) (VM.ssK R K) = r ∧ r.ok (VM.valX L) :=
  ⟨R, K, _, hR, hle, hK, rfl, VM.RT.allYes_ok _ _ h⟩
set_option maxRecDepth 100000
theorem run_z : (VM.simp true ((law3T 60 20 3 (VM.avsOf args 0) (VM.stOf (VM.rngsOf args))).ans) (VM.ssK (VM.rngsOf args) (kz 0))).allYes = true := by kernel_rfl
end Go.Proofs.YteooocleoihdbaaGreatDoor.sonicTurns
