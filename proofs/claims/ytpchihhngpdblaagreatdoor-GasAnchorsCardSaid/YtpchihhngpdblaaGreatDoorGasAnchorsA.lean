/- GasAnchors: what is known at the start; whichever of the three cases it is, what is asked holds. -/
import Derived.Test.YtpchihhngpdblaaGreatDoorGasAnchorsA1
import Derived.Test.YtpchihhngpdblaaGreatDoorGasAnchorsA2
import Derived.Test.YtpchihhngpdblaaGreatDoorGasAnchorsA3
import Derived.Test.YtpchihhngpdblaaGreatDoorGasAnchorsA4
namespace Go.Proofs.YtpchihhngpdblaaGreatDoor.gasAnchors
open Go.ChangeShapes Go.WideShapes Go.ChangeAt Go.RowKit
def dgsB : Nat → Nat → Nat → Bool
  | 0, _, m => Nat.beq m 0
  | n + 1, d, m => Nat.ble (m % 256) d && dgsB n d (m / 256)
theorem dgsB_ok : ∀ {n d m : Nat}, dgsB n d m = true → VM.Dgs n d m
  | 0, _, _, h => Nat.eq_of_beq_eq_true h
  | n + 1, d, m, h => by
    unfold dgsB at h
    rw [Bool.and_eq_true] at h
    exact ⟨Nat.le_of_ble_eq_true h.1, dgsB_ok h.2⟩
theorem okB {n : Nat} {p : VM.Pl} (h : (p.l.all fun t => dgsB n p.d t.1) = true) : p.Ok n := fun t ht => dgsB_ok (List.all_eq_true.1 h t ht)
set_option maxHeartbeats 4000000
theorem ev_p1 (X : Nat → Rat) : p1.ev X = (X 6 + 1) * (X 1 + 1) * (X 3 + 1) * ((X 4 - X 0) * (X 3 + 1) - (X 4 - X 2) * (X 1 + 1)) := by
  simp [p1, VM.Pl.ev, VM.evL, VM.evM_evS, VM.FU, VM.evS, VM.powR]
  grind
theorem ev_n1 (X : Nat → Rat) : n1.ev X = -((X 6 + 1) * (X 1 + 1) * (X 3 + 1) * ((X 4 - X 0) * (X 3 + 1) - (X 4 - X 2) * (X 1 + 1))) := by
  simp [n1, VM.Pl.ev, VM.evL, VM.evM_evS, VM.FU, VM.evS, VM.powR]
  grind
theorem ev_p2 (X : Nat → Rat) : p2.ev X = -((X 6 + 1) * (X 3 + 1) * (256 - X 11) * ((X 4 - X 0) * (X 3 + 1) - (X 4 - X 2) * (X 1 + 1))) := by
  simp [p2, VM.Pl.ev, VM.evL, VM.evM_evS, VM.FU, VM.evS, VM.powR]
  grind
theorem ev_n2 (X : Nat → Rat) : n2.ev X = (X 6 + 1) * (X 3 + 1) * (256 - X 11) * ((X 4 - X 0) * (X 3 + 1) - (X 4 - X 2) * (X 1 + 1)) := by
  simp [n2, VM.Pl.ev, VM.evL, VM.evM_evS, VM.FU, VM.evS, VM.powR]
  grind
theorem ev_p3 (X : Nat → Rat) : p3.ev X = -((X 6 + 1) * (X 1 + 1) * X 11 * ((X 4 - X 0) * (X 3 + 1) - (X 4 - X 2) * (X 1 + 1))) := by
  simp [p3, VM.Pl.ev, VM.evL, VM.evM_evS, VM.FU, VM.evS, VM.powR]
  grind
theorem ev_n3 (X : Nat → Rat) : n3.ev X = (X 6 + 1) * (X 1 + 1) * X 11 * ((X 4 - X 0) * (X 3 + 1) - (X 4 - X 2) * (X 1 + 1)) := by
  simp [n3, VM.Pl.ev, VM.evL, VM.evM_evS, VM.FU, VM.evS, VM.powR]
  grind
theorem ev_pZ (X : Nat → Rat) : pZ.ev X = -((256 - X 11) * (X 1 + 1) + X 11 * (X 3 + 1)) := by
  simp [pZ, VM.Pl.ev, VM.evL, VM.evM_evS, VM.FU, VM.evS, VM.powR]
  grind
theorem ev_pD (X : Nat → Rat) : pD.ev X = (256 - X 11) * (X 1 + 1) + X 11 * (X 3 + 1) := by
  simp [pD, VM.Pl.ev, VM.evL, VM.evM_evS, VM.FU, VM.evS, VM.powR]
  grind
theorem ev_pT1 (X : Nat → Rat) : pT1.ev X = X 8 * X 10 + X 7 * (255 - X 9) + 4080 * (X 6 + 1) := by
  simp [pT1, VM.Pl.ev, VM.evL, VM.evM_evS, VM.FU, VM.evS, VM.powR]
  grind
theorem ev_pT2 (X : Nat → Rat) : pT2.ev X = X 7 * (255 - X 9) + 4080 * (X 6 + 1) := by
  simp [pT2, VM.Pl.ev, VM.evL, VM.evM_evS, VM.FU, VM.evS, VM.powR]
  grind
theorem ok_pZ : pZ.Ok 12 := okB (by decide +kernel)
theorem ok_pD : pD.Ok 12 := okB (by decide +kernel)
theorem ok_pT1 : pT1.Ok 12 := okB (by decide +kernel)
theorem ok_pT2 : pT2.Ok 12 := okB (by decide +kernel)
theorem ok_p1 : p1.Ok 12 := okB (by decide +kernel)
theorem ok_n1 : n1.Ok 12 := okB (by decide +kernel)
theorem ok_p2 : p2.Ok 12 := okB (by decide +kernel)
theorem ok_n2 : n2.Ok 12 := okB (by decide +kernel)
theorem ok_p3 : p3.Ok 12 := okB (by decide +kernel)
theorem ok_n3 : n3.Ok 12 := okB (by decide +kernel)
theorem lt_trichotomy3 (d : Rat) : 0 < d ∨ d < 0 ∨ d = 0 := by
  by_cases h : 0 < d
  · exact .inl h
  · by_cases k : d < 0
    · exact .inr (.inl k)
    · exact .inr (.inr (by grind))
theorem len12 : (VM.rngsOf args).length = 12 := by kernel_rfl
theorem xs_ok {L : List Int} (hL : VM.All2 (fun (r : Int × Int) (n : Int) => r.1 ≤ n ∧ n ≤ r.2) (VM.rngsOf args) L) : ∀ i, i < 12 → 0 ≤ VM.valX L i ∧ VM.valX L i ≤ 255 := by
  intro i hi
  have hr : (VM.rngsOf args)[i]? = some (0, 255) := by
    have h : ((List.range 12).all fun i => decide ((VM.rngsOf args)[i]? = some ((0 : Int), (255 : Int)))) = true := by kernel_rfl
    exact of_decide_eq_true (List.all_eq_true.1 h i (by simpa using hi))
  obtain ⟨n, hn, h0, h1⟩ := hL.get hr
  have e : VM.valX L i = ((n : Int) : Rat) := by unfold VM.valX; rw [List.getD_eq_getElem?_getD, hn]; rfl
  rw [e]
  exact ⟨Rat.intCast_nonneg.2 h0, by have := (Rat.intCast_le_intCast (a := n) (b := 255)).2 h1; exact this⟩
set_option maxRecDepth 100000
theorem rt_ok (L : List Int) (hL : VM.All2 (fun (r : Int × Int) (n : Int) => r.1 ≤ n ∧ n ≤ r.2) (VM.rngsOf args) L) : ∃ R K r, VM.All2 (fun (r : Int × Int) (n : Int) => r.1 ≤ n ∧ n ≤ r.2) R L ∧ R.length ≤ VM.FU ∧ VM.KOk (VM.valX L) R.length K ∧ VM.simp true ((lawR 60 20 6 (VM.avsOf args 0) (VM.stOf R)).ans) (VM.ssK R K) = r ∧ r.ok (VM.valX L) := by
  have hx := xs_ok hL
  have hfu : (VM.rngsOf args).length ≤ VM.FU := of_decide_eq_true (by kernel_rfl)
  have hall : rt.ok (VM.valX L) := rt_all _ (hx 9 (by decide)).1 (hx 9 (by decide)).2 (hx 10 (by decide)).1 (hx 10 (by decide)).2
  suffices h : ∃ K, VM.KOk (VM.valX L) 12 K ∧ VM.simp true ((lawR 60 20 6 (VM.avsOf args 0) (VM.stOf (VM.rngsOf args))).ans) (VM.ssK (VM.rngsOf args) K) = rt by
    obtain ⟨K, h1, h2⟩ := h
    exact ⟨VM.rngsOf args, K, rt, hL, hfu, by rw [len12]; exact h1, h2, hall⟩
  generalize VM.valX L = X at hx
  have pos : ∀ i, i < 12 → 0 < X i + 1 := fun i hi => by have := (hx i hi).1; grind
  have q1 := pos 1 (by decide)
  have q3 := pos 3 (by decide)
  have q6 := pos 6 (by decide)
  have g11 := hx 11 (by decide)
  have q11 : 0 < 256 - X 11 := by grind
  have b1 : 0 < (256 - X 11) * (X 1 + 1) := Rat.mul_pos q11 q1
  have b2 : 0 ≤ X 11 * (X 3 + 1) := Rat.mul_nonneg g11.1 (by grind)
  have c1 : 0 ≤ X 8 * X 10 := Rat.mul_nonneg (hx 8 (by decide)).1 (hx 10 (by decide)).1
  have c2 : 0 ≤ X 7 * (255 - X 9) := Rat.mul_nonneg (hx 7 (by decide)).1 (by have := (hx 9 (by decide)).2; grind)
  have m1 : 0 < (X 6 + 1) * (X 1 + 1) * (X 3 + 1) := Rat.mul_pos (Rat.mul_pos q6 q1) q3
  have m2 : 0 < (X 6 + 1) * (X 3 + 1) * (256 - X 11) := Rat.mul_pos (Rat.mul_pos q6 q3) q11
  have m3 : 0 ≤ (X 6 + 1) * (X 1 + 1) * X 11 := Rat.mul_nonneg (Rat.le_of_lt (Rat.mul_pos q6 q1)) g11.1
  have base : ∀ {K : List (VM.Cd × Bool)}, VM.KOk X 12 K → VM.KOk X 12 ((.z pZ, false) :: (.s pD, true) :: (.s pT1, true) :: (.s pT2, true) :: K) := fun hK =>
    VM.kok_cons ok_pZ (show ¬ pZ.ev X = 0 by rw [ev_pZ]; grind) (VM.kok_cons ok_pD (show 0 < pD.ev X by rw [ev_pD]; grind) (VM.kok_cons ok_pT1 (show 0 < pT1.ev X by rw [ev_pT1]; grind) (VM.kok_cons ok_pT2 (show 0 < pT2.ev X by rw [ev_pT2]; grind) hK)))
  rcases lt_trichotomy3 ((X 4 - X 0) * (X 3 + 1) - (X 4 - X 2) * (X 1 + 1)) with hd | hd | hd
  · refine ⟨kA, base (VM.kok_cons ok_p1 (show 0 < p1.ev X by rw [ev_p1]; exact Rat.mul_pos m1 hd) (VM.kok_cons ok_p2 (show ¬ 0 < p2.ev X by rw [ev_p2]; have := Rat.mul_pos m2 hd; grind) (VM.kok_cons ok_p3 (show ¬ 0 < p3.ev X by rw [ev_p3]; have := Rat.mul_nonneg m3 (Rat.le_of_lt hd); grind) VM.kok_nil))), runA⟩
  · have hn : 0 < -((X 4 - X 0) * (X 3 + 1) - (X 4 - X 2) * (X 1 + 1)) := by grind
    have e1 := Rat.mul_pos m1 hn
    have e2 := Rat.mul_pos m2 hn
    have e3 := Rat.mul_nonneg m3 (Rat.le_of_lt hn)
    rw [Rat.mul_neg] at e1 e2 e3
    exact ⟨kB, base (VM.kok_cons ok_p1 (show ¬ 0 < p1.ev X by rw [ev_p1]; grind) (VM.kok_cons ok_n1 (show 0 < n1.ev X by rw [ev_n1]; exact e1) (VM.kok_cons ok_n2 (show ¬ 0 < n2.ev X by rw [ev_n2]; grind) (VM.kok_cons ok_n3 (show ¬ 0 < n3.ev X by rw [ev_n3]; grind) VM.kok_nil)))), runB⟩
  · have z : ∀ p : VM.Pl, (∃ c, p.ev X = c * ((X 4 - X 0) * (X 3 + 1) - (X 4 - X 2) * (X 1 + 1))) → ¬ 0 < p.ev X := fun p ⟨c, e⟩ => by rw [e, hd, Rat.mul_zero]; grind
    exact ⟨kC, base (VM.kok_cons ok_p1 (z p1 ⟨_, ev_p1 X⟩) (VM.kok_cons ok_n1 (z n1 ⟨_, (ev_n1 X).trans (Rat.neg_mul _ _).symm⟩) (VM.kok_cons ok_p2 (z p2 ⟨_, (ev_p2 X).trans (Rat.neg_mul _ _).symm⟩) (VM.kok_cons ok_p3 (z p3 ⟨_, (ev_p3 X).trans (Rat.neg_mul _ _).symm⟩) (VM.kok_cons ok_n2 (z n2 ⟨_, ev_n2 X⟩) (VM.kok_cons ok_n3 (z n3 ⟨_, ev_n3 X⟩) VM.kok_nil)))))), runC⟩
end Go.Proofs.YtpchihhngpdblaaGreatDoor.gasAnchors
