/- num.binary: a number of binary places. -/
import Derived.Test.YtlncagdekfjinaaGreatDoorFrac2
import Derived.Test.YtlncagdekfjinaaGreatDoorLow
import Derived.Test.YtlncagdekfjinaaGreatDoorVmD
namespace Go.Proofs.YtlncagdekfjinaaGreatDoor
open Go.RowKit Go.Sort Dg Fr
theorem binQ_frac (s : Bool) (X k : Nat) : VM.binQ s X k = frac s X (2 ^ k) := by
  have h2 : (2 ^ k : Nat) ≠ 0 := Nat.pos_iff_ne_zero.1 (Nat.pow_pos (by decide))
  unfold VM.binQ frac sg
  rw [← Rat.divInt_eq_div]
  rfl
theorem frac_cut (s : Bool) (X k t : Nat) (ht : t ≤ k) (hd : 2 ^ t ∣ X) : frac s (X / 2 ^ t) (2 ^ (k - t)) = frac s X (2 ^ k) := by
  obtain ⟨y, rfl⟩ := hd
  have hp : 0 < 2 ^ t := Nat.pow_pos (by decide)
  have e : 2 ^ k = 2 ^ t * 2 ^ (k - t) := by rw [← Nat.pow_add]; congr 1; omega
  rw [Nat.mul_div_cancel_left _ hp, e]
  unfold frac
  have : sg s (2 ^ t * y) = ((2 ^ t : Nat) : Int) * sg s y := by
    unfold sg; cases s <;> simp [Int.mul_neg]
  rw [this]
  exact (Rat.mkRat_mul_left (Nat.pos_iff_ne_zero.1 hp)).symm
set_option maxHeartbeats 2000000 in
theorem binary_any (s : Bool) (a : Option Addr) (c X k : Nat) (w : World) (h : DigsAt w a (nl X) c X) (hl : nl X ≤ 1048576) (hk : k ≤ 1048576) (hE : Env w) :
    Calls Tryz.prog 221 #[.bool s, .slice a (nl X) c, .int .i64 k] w (GivesF w (VM.binQ s X k)) := by
  have HZ := Lib.hid (fun W (hW : Below w.heap.size w W) => zeros_any a c X W (h.mono hW) (by omega) (hE.mono hW))
  have HR := Lib.hid (Box.new w 97 zF3)
  have hz : w.heap.size < (w.alloc (.cells zF3 97)).heap.size := by simp
  have hba := Lib.hid ((Below.refl w.heap.size w).alloc (Nat.le_refl _) (.cells zF3 97))
  have htz : tz X ≤ 67108864 := by
    by_cases h0 : X = 0
    · subst h0; decide
    · have := tz_le (n := 64 * nl X) h0 (by rw [← B_pow_two]; exact lt_nl X); omega
  obtain ⟨t, ht⟩ : ∃ t, t = min (tz X) k := ⟨_, rfl⟩
  have ht1 : t ≤ k := by omega
  have hdv : 2 ^ t ∣ X := Nat.dvd_trans (Nat.pow_dvd_pow 2 (show t ≤ tz X by omega)) (tz_dvd X)
  have HQ := Lib.hid (show frac s (X / 2 ^ t) (2 ^ (k - t)) = VM.binQ s X k by rw [binQ_frac]; exact frac_cut s X k t ht1 hdv)
  have HCo := Lib.hid (show X / 2 ^ t = 0 ∨ Nat.Coprime (X / 2 ^ t) (2 ^ (k - t)) by
    by_cases h0 : X = 0
    · left; subst h0; exact Nat.zero_div _
    right
    by_cases hkt : t = k
    · rw [hkt, Nat.sub_self]; exact Nat.coprime_one_right _
    · have htt : t = tz X := by omega
      obtain ⟨m, hm⟩ := tz_spec h0
      have e : X / 2 ^ t = 2 * m + 1 := by
        rw [htt]
        have hp : 0 < 2 ^ tz X := Nat.pow_pos (by decide)
        calc X / 2 ^ tz X = (2 ^ tz X * (2 * m + 1)) / 2 ^ tz X := by rw [← hm]
          _ = 2 * m + 1 := Nat.mul_div_cancel_left _ hp
      rw [e]
      exact Nat.Coprime.pow_right _ (by simp [Nat.coprime_iff_gcd_eq_one, Nat.gcd_comm]))
  have HRt := Lib.hid (fun W (hW : Below w.heap.size w W) => right_any a c X t W (h.mono hW) (by omega) (by omega))
  have HP := Lib.hid (fun W => power_any (k - t) (by omega) W)
  have hmin : min (tz X : Int) (k : Int) = (t : Int) := by omega
  have hsub : (k : Int) - (t : Int) = ((k - t : Nat) : Int) := by omega
  clear ht hdv
  go_enter Tryz.func221, Tryz.ntmps221
  go_wp2_with fail
  refine (HZ.out _ hba.out).mono ?_
  rintro e w1 ⟨rfl, rfl⟩
  go_wp2_with fail
  try rw [hmin]
  refine (HRt.out _ hba.out).mono ?_
  rintro e w2 ⟨a1, c1, rfl, hd1, hb1⟩
  have HR2 := Lib.hid (HR.out.below hb1 hz)
  have HB1 := Lib.hid (hba.out.trans (hb1.mono (Nat.le_of_lt hz)))
  have HD1 := Lib.hid hd1
  have hz2 : w.heap.size < w2.heap.size := Nat.lt_of_lt_of_le hz hb1.size
  clear hd1 hb1 HR hz
  go_wp2_with fail
  try rw [hsub]
  refine (HP.out _).mono ?_
  rintro e w3 ⟨a2, c2, rfl, hd2, hb2⟩
  have HR3 := Lib.hid (HR2.out.below hb2 hz2)
  have HB2 := Lib.hid (HB1.out.trans (hb2.mono HB1.out.size))
  have hp : (2 ^ (k - t) : Nat) ≠ 0 := Nat.pos_iff_ne_zero.1 (Nat.pow_pos (by decide))
  have HT := Lib.hid (build_any s a1 c1 (X / 2 ^ t) (2 ^ (k - t)) _ w3 (HD1.out.mono hb2) (.inr ⟨hp, a2, c2, rfl, hd2⟩) HCo.out)
  rw [HQ.out] at HT
  have hz3 : w.heap.size < w3.heap.size := Nat.lt_of_lt_of_le hz2 hb2.size
  clear hd2 hb2 HD1 HR2 HB1 HCo HQ hz2 hp
  go_wp2_with fail
  refine HT.out.mono ?_
  rintro e w4 ⟨v, rfl, hv, hb3⟩
  have HV := Lib.hid hv
  obtain ⟨a3, c3, ab, nb, cb, rfl, _, _⟩ := hv
  have HR4 := Lib.hid (HR3.out.below hb3 hz3)
  have HB3 := Lib.hid (HB2.out.trans (hb3.mono HB2.out.size))
  clear hb3 HR3 HB2
  go_wp2_with (first | (refine wpList_box_store rfl 97 _ _ rfl (w.heap.size) rfl [_, _, _] rfl _ _ HR4.out rfl infoF (frac_one _ _ _ _ _ _ _) ?_; intro W hX))
  exact bodyPost_ret (v := _) (results_cell Tryz.results221 _ _ _ _ rfl (box_load _ hX.box Tryz.underlying97 rfl infoF)) rfl ⟨_, rfl, HV.out.filled HR4.out zF3_no hX, HB3.out.trans (hX.below _ (by first | exact Nat.le_refl _ | omega))⟩
end Go.Proofs.YtlncagdekfjinaaGreatDoor
