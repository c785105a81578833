/- SonicFlights by the machine. -/
import Derived.Test.YtnhgkooofloahaaGreatDoorVmLaw3
namespace Go.Proofs.YtnhgkooofloahaaGreatDoor
open Go.RowKit Go.Sort Dg Fr
theorem fl0 (L T B : Rat) : 500 * L * (T - B) / (B * T) = -(500 * L * (B - T) / (T * B)) := by grind
theorem fl2 (L T B : Rat) : 500 * L * (T + B) / (B * T) = 500 * L * (B + T) / (T * B) := by grind
theorem fl4 (L T B : Rat) (n4 : T ≠ 0) (n5 : B ≠ 0) : (500 * L * (B + T) / (T * B) + 500 * L * (B - T) / (T * B)) * T = 1000 * L := by grind
theorem fl5 (L T B : Rat) (n4 : T ≠ 0) (n5 : B ≠ 0) : (500 * L * (B + T) / (T * B) - 500 * L * (B - T) / (T * B)) * B = 1000 * L := by grind
def flightsTree : VM.Tree VM.Lf :=
 .letI (VM.ID.add (VM.IA.l (Int.ofNat 1)) (VM.IA.v 0)) <|
 .letI (VM.ID.add (VM.IA.l (Int.ofNat 1)) (VM.IA.v 1)) <|
 .letI (VM.ID.add (VM.IA.l (Int.ofNat 1)) (VM.IA.v 2)) <|
 .letI (VM.ID.sub (VM.IA.v 5) (VM.IA.v 4)) <|
 .letI (VM.ID.mul (VM.IA.l (Int.ofNat 500)) (VM.IA.v 3)) <|
 .letI (VM.ID.mul (VM.IA.v 7) (VM.IA.v 6)) <|
 .letI (VM.ID.mul (VM.IA.v 4) (VM.IA.v 5)) <|
 .letQ (VM.QD.frac (VM.IA.v 8) (VM.IA.v 9)) <|
 .letI (VM.ID.add (VM.IA.v 5) (VM.IA.v 4)) <|
 .letI (VM.ID.mul (VM.IA.l (Int.ofNat 500)) (VM.IA.v 3)) <|
 .letI (VM.ID.mul (VM.IA.v 11) (VM.IA.v 10)) <|
 .letI (VM.ID.mul (VM.IA.v 4) (VM.IA.v 5)) <|
 .letQ (VM.QD.frac (VM.IA.v 12) (VM.IA.v 13)) <|
 .letI (VM.ID.sub (VM.IA.v 4) (VM.IA.v 5)) <|
 .letI (VM.ID.mul (VM.IA.l (Int.ofNat 500)) (VM.IA.v 3)) <|
 .letI (VM.ID.mul (VM.IA.v 15) (VM.IA.v 14)) <|
 .letI (VM.ID.mul (VM.IA.v 5) (VM.IA.v 4)) <|
 .letQ (VM.QD.frac (VM.IA.v 16) (VM.IA.v 17)) <|
 .letI (VM.ID.add (VM.IA.v 4) (VM.IA.v 5)) <|
 .letI (VM.ID.mul (VM.IA.l (Int.ofNat 500)) (VM.IA.v 3)) <|
 .letI (VM.ID.mul (VM.IA.v 19) (VM.IA.v 18)) <|
 .letI (VM.ID.mul (VM.IA.v 5) (VM.IA.v 4)) <|
 .letQ (VM.QD.frac (VM.IA.v 20) (VM.IA.v 21)) <|
 .letQ (VM.QD.neg 0) <|
 .letB (VM.BD.same 2 4) <|
 .letB (VM.BD.not 0) <|
 .ifB 1 (
  .leaf VM.Lf.no
 ) <|
 .letB (VM.BD.same 3 1) <|
 .letB (VM.BD.not 2) <|
 .ifB 3 (
  .leaf VM.Lf.no
 ) <|
 .letI (VM.ID.add (VM.IA.l (Int.ofNat 1)) (VM.IA.v 0)) <|
 .letI (VM.ID.mul (VM.IA.l (Int.ofNat 1000)) (VM.IA.v 22)) <|
 .letQ (VM.QD.int (VM.IA.v 23)) <|
 .letI (VM.ID.add (VM.IA.l (Int.ofNat 1)) (VM.IA.v 1)) <|
 .letQ (VM.QD.add 1 0) <|
 .letQ (VM.QD.int (VM.IA.v 24)) <|
 .letQ (VM.QD.mul 6 7) <|
 .letB (VM.BD.same 8 5) <|
 .ifB 4 (
  .letI (VM.ID.add (VM.IA.l (Int.ofNat 1)) (VM.IA.v 2)) <|
  .letQ (VM.QD.sub 1 0) <|
  .letQ (VM.QD.int (VM.IA.v 25)) <|
  .letQ (VM.QD.mul 9 10) <|
  .letB (VM.BD.same 11 5) <|
  .ifB 5 (
   .leaf VM.Lf.yes
  ) <|
  .leaf VM.Lf.no
 ) <|
 .leaf VM.Lf.no
theorem flights_eq (i0 i1 i2 : Int) : flightsTree.vc ft.txt (VM.env0 [i0, i1, i2]).m VM.Lf.ok = (
  ∀ i3 : Int, i3 = (1 : Int) + i0 →
  ∀ i4 : Int, i4 = (1 : Int) + i1 →
  ∀ i5 : Int, i5 = (1 : Int) + i2 →
  ∀ i6 : Int, i6 = i5 - i4 →
  ∀ i7 : Int, i7 = (500 : Int) * i3 →
  ∀ i8 : Int, i8 = i7 * i6 →
  ∀ i9 : Int, i9 = i4 * i5 →
  ∀ q0 : Rat, q0 = (i8 : Rat) / (i9 : Rat) →
  ∀ i10 : Int, i10 = i5 + i4 →
  ∀ i11 : Int, i11 = (500 : Int) * i3 →
  ∀ i12 : Int, i12 = i11 * i10 →
  ∀ i13 : Int, i13 = i4 * i5 →
  ∀ q1 : Rat, q1 = (i12 : Rat) / (i13 : Rat) →
  ∀ i14 : Int, i14 = i4 - i5 →
  ∀ i15 : Int, i15 = (500 : Int) * i3 →
  ∀ i16 : Int, i16 = i15 * i14 →
  ∀ i17 : Int, i17 = i5 * i4 →
  ∀ q2 : Rat, q2 = (i16 : Rat) / (i17 : Rat) →
  ∀ i18 : Int, i18 = i4 + i5 →
  ∀ i19 : Int, i19 = (500 : Int) * i3 →
  ∀ i20 : Int, i20 = i19 * i18 →
  ∀ i21 : Int, i21 = i5 * i4 →
  ∀ q3 : Rat, q3 = (i20 : Rat) / (i21 : Rat) →
  ∀ q4 : Rat, q4 = -q0 →
  ∀ b0 : Bool, b0 = (decide (q2 = q4)) →
  ∀ b1 : Bool, b1 = (!b0) →
  ((b1 = true →
  False
  ) ∧ (b1 = false →
  ∀ b2 : Bool, b2 = (decide (q3 = q1)) →
  ∀ b3 : Bool, b3 = (!b2) →
  ((b3 = true →
  False
  ) ∧ (b3 = false →
  ∀ i22 : Int, i22 = (1 : Int) + i0 →
  ∀ i23 : Int, i23 = (1000 : Int) * i22 →
  ∀ q5 : Rat, q5 = (i23 : Rat) →
  ∀ i24 : Int, i24 = (1 : Int) + i1 →
  ∀ q6 : Rat, q6 = q1 + q0 →
  ∀ q7 : Rat, q7 = (i24 : Rat) →
  ∀ q8 : Rat, q8 = q6 * q7 →
  ∀ b4 : Bool, b4 = (decide (q8 = q5)) →
  ((b4 = true →
  ∀ i25 : Int, i25 = (1 : Int) + i2 →
  ∀ q9 : Rat, q9 = q1 - q0 →
  ∀ q10 : Rat, q10 = (i25 : Rat) →
  ∀ q11 : Rat, q11 = q9 * q10 →
  ∀ b5 : Bool, b5 = (decide (q11 = q5)) →
  ((b5 = true →
  True
  ) ∧ (b5 = false →
  False
  ))
  ) ∧ (b4 = false →
  False
  ))
  ))
  ))) := by kernel_rfl
theorem flights_run : (law3 60 20 3 [.c (.iv .u16 0), .c (.iv .u16 1), .c (.iv .u16 2)] { VM.st0 with rng := [(0, 65535), (0, 65535), (0, 65535)] }).ans = flightsTree := by kernel_rfl
set_option maxHeartbeats 8000000 in
theorem flights_vc (i0 i1 i2 : Int) (_h0 : 0 ≤ i0) (h1 : 0 ≤ i1) (h2 : 0 ≤ i2) : flightsTree.vc ft.txt (VM.env0 [i0, i1, i2]).m VM.Lf.ok := by
  rw [flights_eq]
  intro i3 hi3
  have ri3 : (i3 : Rat) = (1 : Rat) + (i0 : Rat) := by rw [hi3, Rat.intCast_add]; rfl
  intro i4 hi4
  have ri4 : (i4 : Rat) = (1 : Rat) + (i1 : Rat) := by rw [hi4, Rat.intCast_add]; rfl
  intro i5 hi5
  have ri5 : (i5 : Rat) = (1 : Rat) + (i2 : Rat) := by rw [hi5, Rat.intCast_add]; rfl
  have n4 : (i4 : Rat) ≠ 0 := VM.rat_ne (by omega)
  have n5 : (i5 : Rat) ≠ 0 := VM.rat_ne (by omega)
  intro i6 hi6
  have ri6 : (i6 : Rat) = (i5 : Rat) - (i4 : Rat) := by rw [hi6, Rat.intCast_sub]
  intro i7 hi7
  have ri7 : (i7 : Rat) = (500 : Rat) * (i3 : Rat) := by rw [hi7, Rat.intCast_mul]; rfl
  intro i8 hi8
  have ri8 : (i8 : Rat) = (i7 : Rat) * (i6 : Rat) := by rw [hi8, Rat.intCast_mul]
  intro i9 hi9
  have ri9 : (i9 : Rat) = (i4 : Rat) * (i5 : Rat) := by rw [hi9, Rat.intCast_mul]
  intro q0 hq0
  have eq0 : q0 = 500 * (i3 : Rat) * ((i5 : Rat) - (i4 : Rat)) / ((i4 : Rat) * (i5 : Rat)) := by rw [hq0, ri8, ri9, ri7, ri6]
  intro i10 hi10
  have ri10 : (i10 : Rat) = (i5 : Rat) + (i4 : Rat) := by rw [hi10, Rat.intCast_add]
  intro i11 hi11
  have ri11 : (i11 : Rat) = (500 : Rat) * (i3 : Rat) := by rw [hi11, Rat.intCast_mul]; rfl
  intro i12 hi12
  have ri12 : (i12 : Rat) = (i11 : Rat) * (i10 : Rat) := by rw [hi12, Rat.intCast_mul]
  intro i13 hi13
  have ri13 : (i13 : Rat) = (i4 : Rat) * (i5 : Rat) := by rw [hi13, Rat.intCast_mul]
  intro q1 hq1
  have eq1 : q1 = 500 * (i3 : Rat) * ((i5 : Rat) + (i4 : Rat)) / ((i4 : Rat) * (i5 : Rat)) := by rw [hq1, ri12, ri13, ri11, ri10]
  intro i14 hi14
  have ri14 : (i14 : Rat) = (i4 : Rat) - (i5 : Rat) := by rw [hi14, Rat.intCast_sub]
  intro i15 hi15
  have ri15 : (i15 : Rat) = (500 : Rat) * (i3 : Rat) := by rw [hi15, Rat.intCast_mul]; rfl
  intro i16 hi16
  have ri16 : (i16 : Rat) = (i15 : Rat) * (i14 : Rat) := by rw [hi16, Rat.intCast_mul]
  intro i17 hi17
  have ri17 : (i17 : Rat) = (i5 : Rat) * (i4 : Rat) := by rw [hi17, Rat.intCast_mul]
  intro q2 hq2
  have eq2 : q2 = 500 * (i3 : Rat) * ((i4 : Rat) - (i5 : Rat)) / ((i5 : Rat) * (i4 : Rat)) := by rw [hq2, ri16, ri17, ri15, ri14]
  intro i18 hi18
  have ri18 : (i18 : Rat) = (i4 : Rat) + (i5 : Rat) := by rw [hi18, Rat.intCast_add]
  intro i19 hi19
  have ri19 : (i19 : Rat) = (500 : Rat) * (i3 : Rat) := by rw [hi19, Rat.intCast_mul]; rfl
  intro i20 hi20
  have ri20 : (i20 : Rat) = (i19 : Rat) * (i18 : Rat) := by rw [hi20, Rat.intCast_mul]
  intro i21 hi21
  have ri21 : (i21 : Rat) = (i5 : Rat) * (i4 : Rat) := by rw [hi21, Rat.intCast_mul]
  intro q3 hq3
  have eq3 : q3 = 500 * (i3 : Rat) * ((i4 : Rat) + (i5 : Rat)) / ((i5 : Rat) * (i4 : Rat)) := by rw [hq3, ri20, ri21, ri19, ri18]
  intro q4 hq4
  intro b0 hb0
  have kb0 : b0 = true := by
    rw [hb0]
    apply decide_eq_true
    rw [eq2, hq4, eq0]
    exact fl0 _ _ _
  intro b1 hb1
  have kb1 : b1 = false := by rw [hb1, kb0]; rfl
  refine ⟨fun cb1 => ?_, fun cb1 => ?_⟩
  · exact absurd (cb1.symm.trans kb1) (by decide)
  · have kb1 := cb1
    intro b2 hb2
    have kb2 : b2 = true := by
      rw [hb2]
      apply decide_eq_true
      rw [eq3, eq1]
      exact fl2 _ _ _
    intro b3 hb3
    have kb3 : b3 = false := by rw [hb3, kb2]; rfl
    refine ⟨fun cb3 => ?_, fun cb3 => ?_⟩
    · exact absurd (cb3.symm.trans kb3) (by decide)
    · have kb3 := cb3
      intro i22 hi22
      have ri22 : (i22 : Rat) = (1 : Rat) + (i0 : Rat) := by rw [hi22, Rat.intCast_add]; rfl
      intro i23 hi23
      have ri23 : (i23 : Rat) = (1000 : Rat) * (i22 : Rat) := by rw [hi23, Rat.intCast_mul]; rfl
      intro q5 hq5
      intro i24 hi24
      have ri24 : (i24 : Rat) = (1 : Rat) + (i1 : Rat) := by rw [hi24, Rat.intCast_add]; rfl
      intro q6 hq6
      intro q7 hq7
      intro q8 hq8
      intro b4 hb4
      have kb4 : b4 = true := by
        rw [hb4]
        apply decide_eq_true
        rw [hq8, hq6, hq7, eq1, eq0, hq5, ri24, ri23, ri22, ← ri4, ← ri3]
        exact fl4 _ _ _ n4 n5
      refine ⟨fun cb4 => ?_, fun cb4 => ?_⟩
      · have kb4 := cb4
        intro i25 hi25
        have ri25 : (i25 : Rat) = (1 : Rat) + (i2 : Rat) := by rw [hi25, Rat.intCast_add]; rfl
        intro q9 hq9
        intro q10 hq10
        intro q11 hq11
        intro b5 hb5
        have kb5 : b5 = true := by
          rw [hb5]
          apply decide_eq_true
          rw [hq11, hq9, hq10, eq1, eq0, hq5, ri25, ri23, ri22, ← ri5, ← ri3]
          exact fl5 _ _ _ n4 n5
        refine ⟨fun cb5 => ?_, fun cb5 => ?_⟩
        · have kb5 := cb5
          exact trivial
        · exact absurd (cb5.symm.trans kb5) (by decide)
      · exact absurd (cb4.symm.trans kb4) (by decide)
theorem flights_walk (w : World) (hE : Env w) (i0 i1 i2 : Int) (h0 : 0 ≤ i0 ∧ i0 ≤ 65535) (h1 : 0 ≤ i1 ∧ i1 ≤ 65535) (h2 : 0 ≤ i2 ∧ i2 ≤ 65535) :
    Calls Tryz.prog 3 #[.int .u16 i0, .int .u16 i1, .int .u16 i2] w fun e w' => e = .returned (.bool true) ∧ Below w.heap.size w w' := by
  have hs : VM.SRel ft w (VM.env0 [i0, i1, i2]) { VM.st0 with rng := [(0, 65535), (0, 65535), (0, 65535)] } w := VM.SRel.start (T := ft) hE ⟨h0, h1, h2, trivial⟩
  have ha : VM.All2 (VM.ARel (VM.env0 [i0, i1, i2])) [.c (.iv .u16 0), .c (.iv .u16 1), .c (.iv .u16 2)] [.int .u16 i0, .int .u16 i1, .int .u16 i2] := ⟨⟨i0, rfl, rfl⟩, ⟨i1, rfl, rfl⟩, ⟨i2, rfl, rfl⟩, trivial⟩
  exact VM.yes_of_tree (law3_ok 60 20) hs ha flights_run (flights_vc i0 i1 i2 h0.1 h1.1 h2.1)
end Go.Proofs.YtnhgkooofloahaaGreatDoor
