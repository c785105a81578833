/- law01.Brief: short numerators and denominators. -/
import Derived.Test.YtpchihhngpdblaaGreatDoorFrac2
import Derived.Test.YtpchihhngpdblaaGreatDoorLow
import Derived.Test.YtpchihhngpdblaaGreatDoorVmD
namespace Go.Proofs.YtpchihhngpdblaaGreatDoor
open Go.RowKit Go.Sort Dg Fr
theorem bitLen_short {x m : Nat} (hm : m ≤ 64) (hx : x < 18446744073709551616) : Lib.bitLen x ≤ m ↔ x < 2 ^ m := by
  rw [bitLen_eq (show x < B from hx)]
  refine ⟨fun h => Nat.lt_of_lt_of_le (lt_bl x) (Nat.pow_le_pow_right (by decide) h), fun h => ?_⟩
  unfold bl
  split
  · omega
  · rename_i h0
    have := (Nat.log2_lt h0).2 h
    omega
theorem flat2_get : ∀ (l : List (Int × Int)) (k : Nat) (h : k < l.length), (VM.flat2 l)[k * 2]? = some (.int .i64 l[k].1) ∧ (VM.flat2 l)[k * 2 + 1]? = some (.int .i64 l[k].2)
  | (a, b) :: l, 0, _ => ⟨rfl, rfl⟩
  | (a, b) :: l, k + 1, h => by
    obtain ⟨h1, h2⟩ := flat2_get l k (by simpa using h)
    refine ⟨?_, ?_⟩
    · rw [show (k + 1) * 2 = k * 2 + 1 + 1 by omega]; simpa [VM.flat2] using h1
    · rw [show (k + 1) * 2 + 1 = k * 2 + 1 + 1 + 1 by omega]; simpa [VM.flat2] using h2
theorem wrap_pos {A : Nat} (h : A ≤ 9223372036854775808) : IntKind.u64.wrap (A : Int) = A := by
  simp only [IntKind.wrap, IntKind.bits, IntKind.signed]; simp; omega
theorem wrap_neg {A : Nat} (h0 : 0 < A) (h : A ≤ 9223372036854775808) : IntKind.u64.wrap (-(A : Int)) = 18446744073709551616 - A := by
  simp only [IntKind.wrap, IntKind.bits, IntKind.signed]; simp; omega
theorem wrap_neg2 {A : Nat} (h0 : 0 < A) (h : A ≤ 9223372036854775808) : IntKind.u64.wrap (-(18446744073709551616 - (A : Int))) = A := by
  simp only [IntKind.wrap, IntKind.bits, IntKind.signed]; simp; omega
def okP (m : Nat) (p : Int × Int) : Bool := decide (p.1.natAbs < 2 ^ m) && decide (p.2 < 2 ^ m)
set_option maxHeartbeats 4000000 in
theorem Brief_any (w : World) (g o c m : Nat) (l : List (Int × Int)) (hl : l.length ≤ 1048576) (_hc : l.length ≤ c) (hm : m ≤ 64) (hw : ∀ p ∈ l, VM.W64 p) (hg : g < w.heap.size) (hcells : ∀ j v, (VM.flat2 l)[j]? = some v → w.cell? ⟨g, o + j, none⟩ = some v) :
    Calls Tryz.prog 25 #[.int .i64 m, .slice (some ⟨g, o, none⟩) l.length c] w (fun e w' => e = .returned (.bool (VM.short m l)) ∧ Below w.heap.size w w') := by
  have HL := Lib.hid (fun (x : Int) (W : World) (h0 : 0 ≤ x) (h1 : x ≤ 18446744073709551615) => Tryz.bits_Len64 x W h0 h1)
  go_enter Tryz.func25, Tryz.ntmps25
  go_wp2
  go_loopw [10] (fun v10 wr => ∃ k : Nat, k ≤ l.length ∧ v10 = .int .i64 k ∧ Hid ((l.take k).all (okP m) = true) ∧ Hid (Below w.heap.size w wr)) (fun v10 _ => l.length - (intOf v10).toNat)
  case atStart => exact ⟨0, Nat.zero_le _, rfl, rfl, Below.refl _ _⟩
  case round =>
    obtain ⟨k, hk, rfl, hall, hb⟩ := hrel
    by_cases hkl : k = l.length
    · subst hkl
      go_wp2
      go_ret
      exact ⟨by rw [show VM.short m l = true from by have := hall.out; rw [List.take_length] at this; exact this]; rfl, hb.out⟩
    · have hk' : k < l.length := by omega
      obtain ⟨n, d, hnd⟩ : ∃ n d, l[k] = (n, d) := ⟨_, _, rfl⟩
      obtain ⟨f0, f1⟩ := flat2_get l k hk'
      rw [hnd] at f0 f1
      have hA0 : wr.cell? ⟨g, o + k * 2, none⟩ = some (.int .i64 n) := (hb.out.cell (by exact hg)).trans (hcells _ _ f0)
      have hA1 : wr.cell? ⟨g, o + k * 2 + 1, none⟩ = some (.int .i64 d) := (hb.out.cell (by exact hg)).trans (hcells _ _ f1)
      obtain ⟨w1, w2, w3, w4⟩ := hw (n, d) (by rw [← hnd]; exact List.getElem_mem hk')
      clear f0 f1
      have hlt : ((k : Int) < (l.length : Int)) := by omega
      obtain ⟨A, hA, hA1, hA2⟩ : ∃ A : Nat, n.natAbs = A ∧ A ≤ 9223372036854775808 ∧ (n < 0 ∨ n = A) := ⟨_, rfl, by omega, by omega⟩
      have HL1 := Lib.hid (fun W => show Calls Tryz.prog 86 #[.int .u64 (A : Int)] W (fun e w' => e = .returned (.int .i64 (Lib.bitLen A)) ∧ w' = W) from HL.out (A : Int) W (by omega) (by omega))
      have HL2 := Lib.hid (fun (h : 0 < d) W => HL.out d W (by omega) (by omega))
      have hwd : 0 < d → IntKind.u64.wrap d = d := fun h => by
        have := wrap_pos (A := d.toNat) (by omega)
        rw [show ((d.toNat : Nat) : Int) = d by omega] at this; exact this
      have hBA := bitLen_short (x := A) hm (by omega)
      have hBD := bitLen_short (x := d.toNat) hm (by omega)
      have hB1 := Lib.hid (hb.out.alloc (by have := hb.out.size; omega) (.cells #[.int .i64 n, .int .i64 d] 23))
      have hwrap : IntKind.i64.wrap ((k : Int) + 1) = ((k + 1 : Nat) : Int) := by
        simp only [IntKind.wrap, IntKind.bits, IntKind.signed]; simp; omega
      have hnext : okP m (n, d) = true → ((l.take (k + 1)).all (okP m) = true) := fun h => by
        rw [List.take_add_one, List.getElem?_eq_getElem hk', List.all_append, hall.out, hnd]; simpa using h
      have hfail : okP m (n, d) = false → VM.short m l = false := fun h => by
        have : l.all (okP m) = false := by
          rw [List.all_eq_false]; exact ⟨l[k], List.getElem_mem hk', by rw [hnd, h]; simp⟩
        exact this
      have he : (2 : Int) ^ m = ((2 ^ m : Nat) : Int) := by simp
      have hpos : 0 < 2 ^ m := Nat.pow_pos (by decide)
      have hok : okP m (n, d) = (decide (A < 2 ^ m) && decide (d < 2 ^ m)) := by unfold okP; rw [hA]
      by_cases hneg : n < 0
      · have hu1 : IntKind.u64.wrap n = 18446744073709551616 - A := by rw [show n = -(A : Int) by omega]; exact wrap_neg (by omega) (by omega)
        have hu2 : IntKind.u64.wrap (-(18446744073709551616 - (A : Int))) = A := wrap_neg2 (by omega) (by omega)
        have hd0 : decide (n < 0) = true := by simpa using hneg
        go_wp2_with fail
        refine (HL1.out _).mono ?_
        rintro e w' ⟨rfl, rfl⟩
        by_cases hc1 : Lib.bitLen A ≤ m
        · have hg1 : decide ((m : Int) < (Lib.bitLen A : Int)) = false := by simpa using hc1
          by_cases hdp : 0 < d
          · have hg2 : decide ((0 : Int) < d) = true := by simpa using hdp
            have hwd2 := hwd hdp
            go_wp2_with fail
            refine (HL2.out hdp _).mono ?_
            rintro e w' ⟨rfl, rfl⟩
            by_cases hc2 : Lib.bitLen d.toNat ≤ m
            · have hg3 : decide ((m : Int) < (Lib.bitLen d.toNat : Int)) = false := by simpa using hc2
              go_wp2
              go_roundw
              case rel => exact ⟨k + 1, by omega, rfl, Lib.hid (hnext (by rw [hok]; have h1 := hBA.1 hc1; have h2 := hBD.1 hc2; rw [decide_eq_true h1, he, decide_eq_true (by omega)]; rfl)), hB1⟩
              case measure => simp [intOf]; omega
            · have hg3 : decide ((m : Int) < (Lib.bitLen d.toNat : Int)) = true := by simpa using hc2
              go_wp2
              go_ret
              exact ⟨by rw [hfail (by rw [hok]; have h2 : ¬ d.toNat < 2 ^ m := fun h => hc2 (hBD.2 h); rw [he, decide_eq_false (p := d < ((2 ^ m : Nat) : Int)) (by omega), Bool.and_false])]; rfl, hB1.out⟩
          · have hg2 : decide ((0 : Int) < d) = false := by simpa using hdp
            go_wp2
            go_roundw
            case rel => exact ⟨k + 1, by omega, rfl, Lib.hid (hnext (by rw [hok]; have h1 := hBA.1 hc1; rw [decide_eq_true h1, he, decide_eq_true (by omega)]; rfl)), hB1⟩
            case measure => simp [intOf]; omega
        · have hg1 : decide ((m : Int) < (Lib.bitLen A : Int)) = true := by simpa using hc1
          go_wp2
          go_ret
          exact ⟨by rw [hfail (by rw [hok]; have h2 : ¬ A < 2 ^ m := fun h => hc1 (hBA.2 h); rw [decide_eq_false h2, Bool.false_and])]; rfl, hB1.out⟩
      · have hu1 : IntKind.u64.wrap n = A := by rw [show n = (A : Int) by omega]; exact wrap_pos (by omega)
        have hd0 : decide (n < 0) = false := by simpa using hneg
        go_wp2_with fail
        refine (HL1.out _).mono ?_
        rintro e w' ⟨rfl, rfl⟩
        by_cases hc1 : Lib.bitLen A ≤ m
        · have hg1 : decide ((m : Int) < (Lib.bitLen A : Int)) = false := by simpa using hc1
          by_cases hdp : 0 < d
          · have hg2 : decide ((0 : Int) < d) = true := by simpa using hdp
            have hwd2 := hwd hdp
            go_wp2_with fail
            refine (HL2.out hdp _).mono ?_
            rintro e w' ⟨rfl, rfl⟩
            by_cases hc2 : Lib.bitLen d.toNat ≤ m
            · have hg3 : decide ((m : Int) < (Lib.bitLen d.toNat : Int)) = false := by simpa using hc2
              go_wp2
              go_roundw
              case rel => exact ⟨k + 1, by omega, rfl, Lib.hid (hnext (by rw [hok]; have h1 := hBA.1 hc1; have h2 := hBD.1 hc2; rw [decide_eq_true h1, he, decide_eq_true (by omega)]; rfl)), hB1⟩
              case measure => simp [intOf]; omega
            · have hg3 : decide ((m : Int) < (Lib.bitLen d.toNat : Int)) = true := by simpa using hc2
              go_wp2
              go_ret
              exact ⟨by rw [hfail (by rw [hok]; have h2 : ¬ d.toNat < 2 ^ m := fun h => hc2 (hBD.2 h); rw [he, decide_eq_false (p := d < ((2 ^ m : Nat) : Int)) (by omega), Bool.and_false])]; rfl, hB1.out⟩
          · have hg2 : decide ((0 : Int) < d) = false := by simpa using hdp
            go_wp2
            go_roundw
            case rel => exact ⟨k + 1, by omega, rfl, Lib.hid (hnext (by rw [hok]; have h1 := hBA.1 hc1; rw [decide_eq_true h1, he, decide_eq_true (by omega)]; rfl)), hB1⟩
            case measure => simp [intOf]; omega
        · have hg1 : decide ((m : Int) < (Lib.bitLen A : Int)) = true := by simpa using hc1
          go_wp2
          go_ret
          exact ⟨by rw [hfail (by rw [hok]; have h2 : ¬ A < 2 ^ m := fun h => hc1 (hBA.2 h); rw [decide_eq_false h2, Bool.false_and])]; rfl, hB1.out⟩
end Go.Proofs.YtpchihhngpdblaaGreatDoor
