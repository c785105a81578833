/- (limbs).divideLong. -/
import Derived.Test.YtlncagdekfjinaaGreatDoorTake
import Derived.Test.YtlncagdekfjinaaGreatDoorAdd
import Derived.Test.YtlncagdekfjinaaGreatDoorShift
namespace Go.Proofs.YtlncagdekfjinaaGreatDoor
open Go.RowKit Go.Sort Dg
theorem long_step {X D i n : Nat} (hD : 0 < D) (hDn : D < B ^ n) :
    X % (D * B ^ (i + 1)) / B ^ i < B * D ∧ X % (D * B ^ (i + 1)) / B ^ i / D < B ∧ X % (D * B ^ (i + 1)) / B ^ i % D < B ^ (n + 1) ∧ X % (D * B ^ (i + 1)) / B ^ i < B ^ (n + 1) ∧
    patch (X % (D * B ^ (i + 1))) i (n + 1) (X % (D * B ^ (i + 1)) / B ^ i % D) = X % (D * B ^ i) ∧
    put (X / (D * B ^ (i + 1)) * B ^ (i + 1)) i (X % (D * B ^ (i + 1)) / B ^ i / D) = X / (D * B ^ i) * B ^ i := by
  have hP := B_pow_pos i
  have e1 : D * B ^ (i + 1) = B ^ i * (B * D) := by rw [Nat.pow_succ, Nat.mul_comm D, Nat.mul_assoc]
  have hBD : 0 < B * D := Nat.mul_pos B_pos hD
  have h1 : X % (D * B ^ (i + 1)) / B ^ i < B * D := by
    rw [Nat.div_lt_iff_lt_mul hP, e1, Nat.mul_comm (B * D)]
    exact Nat.mod_lt _ (Nat.mul_pos hP hBD)
  have h4 : B * D < B ^ (n + 1) := by rw [Nat.pow_succ']; exact Nat.mul_lt_mul_of_pos_left hDn B_pos
  have h3 := Nat.mod_lt (X % (D * B ^ (i + 1)) / B ^ i) hD
  have h5 : D < B ^ (n + 1) := Nat.lt_of_lt_of_le hDn (Nat.pow_le_pow_right B_pos (by omega))
  refine ⟨h1, by rw [Nat.div_lt_iff_lt_mul hD]; exact h1, by omega, by omega, ?_, ?_⟩
  · have h6 : X % (D * B ^ (i + 1)) < B ^ (i + (n + 1)) := by
      rw [Nat.div_lt_iff_lt_mul hP] at h1
      rw [show B ^ (i + (n + 1)) = B ^ (n + 1) * B ^ i by rw [Nat.add_comm]; exact Nat.pow_add _ _ _]
      exact Nat.lt_of_lt_of_le h1 (Nat.mul_le_mul_right _ (Nat.le_of_lt h4))
    rw [patch_top h6]
    have h7 := Nat.mod_mul (a := B ^ i) (b := D) (x := X % (D * B ^ (i + 1)))
    rw [Nat.mul_comm _ (B ^ i), ← h7, e1]
    rw [Nat.mul_comm D (B ^ i)]
    exact Nat.mod_mod_of_dvd _ ⟨B, by rw [Nat.mul_comm B D, Nat.mul_assoc]⟩
  · have h8 := put_add (X / (D * B ^ (i + 1)) * B ^ (i + 1)) i (X % (D * B ^ (i + 1)) / B ^ i / D)
    have h9 : dig (X / (D * B ^ (i + 1)) * B ^ (i + 1)) i = 0 := dig_mul_pow_low (by omega)
    rw [h9, Nat.zero_mul, Nat.add_zero] at h8
    rw [h8, Nat.div_div_eq_div_mul, Nat.mul_comm (B ^ i) D]
    have e2 : D * B ^ (i + 1) = D * B ^ i * B := by rw [Nat.pow_succ, Nat.mul_assoc]
    have hM : 0 < D * B ^ i := Nat.mul_pos hD hP
    rw [e2]
    have h10 : X % (D * B ^ i * B) / (D * B ^ i) = X / (D * B ^ i) % B := by rw [Nat.mod_mul_right_div_self]
    have h11 : X / (D * B ^ i * B) = X / (D * B ^ i) / B := by rw [Nat.div_div_eq_div_mul]
    rw [h10, h11]
    have h12 := Nat.div_add_mod' (X / (D * B ^ i)) B
    generalize X / (D * B ^ i) = q at *
    rw [Nat.pow_succ, Nat.mul_comm (B ^ i) B, ← Nat.mul_assoc, ← Nat.add_mul, h12]
theorem Row.mono {w w' : World} {b off n v : Nat} (h : Row w b off n v) (hb : b < w.heap.size) (hB : Below w.heap.size w w') : Row w' b off n v :=
  fun i hi => ⟨(hB.cell (p := ⟨b, off + i, none⟩) hb).trans (h i hi).1, (hB.frozen (p := ⟨b, off + i, none⟩) hb).trans (h i hi).2⟩
theorem Row.apart {w : World} {b off n v : Nat} (h : Row w b off n v) {c o m u : Nat} (hc : b ≠ c) : Row (rowW w c o m u) b off n v :=
  fun i hi => ⟨(rowW_other (a := ⟨b, off + i, none⟩) (.inl hc)).trans (h i hi).1, by unfold rowW; rw [frozen?_putRow]; exact (h i hi).2⟩
theorem Row.drawn {w : World} {b off n v : Nat} (h : Row w b off n v) (q : Nat) : Row (w.drewN q) b off n v := h
theorem lead_shift {y : Nat} (hy : y ≠ 0) : nl (y * 2 ^ (64 - bl (dig y (nl y - 1)))) = nl y := by
  have hp := nl_pos hy
  have ht := bl_top hy
  have hl : bl (dig y (nl y - 1)) ≤ 64 := bl_le (by rw [← B_two64]; exact dig_lt _ _)
  have h1 : nl (y * 2 ^ (64 - bl (dig y (nl y - 1)))) ≤ nl y := by
    apply nl_le
    rw [B_pow_two]
    have h2 : y * 2 ^ (64 - bl (dig y (nl y - 1))) < 2 ^ bl y * 2 ^ (64 - bl (dig y (nl y - 1))) := Nat.mul_lt_mul_of_pos_right (lt_bl y) (Nat.two_pow_pos _)
    rw [← Nat.pow_add] at h2
    rwa [show 64 * nl y = bl y + (64 - bl (dig y (nl y - 1))) by omega]
  have h3 := nl_mono (Nat.le_mul_of_pos_right y (Nat.two_pow_pos (64 - bl (dig y (nl y - 1)))))
  omega
theorem long_start {x y s : Nat} (hy : y ≠ 0) (hyx : y ≤ x) : x * 2 ^ s < y * 2 ^ s * B ^ (nl x - nl y + 1) := by
  have h1 := le_of_nl hy
  have h2 := lt_nl x
  have h3 := nl_mono hyx
  have h4 := nl_pos hy
  have h5 : B ^ nl x ≤ y * B ^ (nl x - nl y + 1) := by
    rw [show nl x = nl y - 1 + (nl x - nl y + 1) by omega, Nat.pow_add]
    rw [show nl y - 1 + (nl x - nl y + 1) - nl y + 1 = nl x - nl y + 1 by omega]
    exact Nat.mul_le_mul_right _ h1
  rw [Nat.mul_assoc, Nat.mul_comm (2 ^ s), ← Nat.mul_assoc]
  exact Nat.mul_lt_mul_of_pos_right (Nat.lt_of_lt_of_le h2 h5) (Nat.two_pow_pos s)
theorem divideLong_any (a b : Option Addr) (ca cb x y : Nat) (w : World) (hx : DigsAt w a (nl x) ca x) (hy : DigsAt w b (nl y) cb y) (hnx : nl x ≤ 68719476735) (hn2 : 2 ≤ nl y) (hyx : y ≤ x) :
    Calls Tryz.prog 209 #[.slice a (nl x) ca, .slice b (nl y) cb] w fun e w' =>
      ∃ a1 c1 a2 c2, e = .returned (.tuple #[.slice a1 (nl (x / y)) c1, .slice a2 (nl (x % y)) c2]) ∧ DigsAt w' a1 (nl (x / y)) c1 (x / y) ∧ DigsAt w' a2 (nl (x % y)) c2 (x % y) ∧ Below w.heap.size w w' ∧ Room w' w.heap.size a2 c2 := by
  have hy0 : y ≠ 0 := by rintro rfl; rw [nl_zero] at hn2; omega
  have hnk := nl_mono hyx
  have htop := dig_top hy0
  have hls := lead_shift hy0
  have hstart := fun s => long_start (s := s) hy0 hyx
  have hl64 : bl (dig y (nl y - 1)) ≤ 64 := bl_le (by rw [← B_two64]; exact dig_lt _ _)
  obtain ⟨b2, o2, rfl, hb2, hc2⟩ := hy.cells (by omega)
  have g1 := hc2 (nl y - 1) (by omega)
  have hd := dig_lt y (nl y - 1)
  have hxl := lt_nl x
  have hyl := lt_nl y
  have hL1 := fun s (hs : s ≤ 64) => left_any (some ⟨b2, o2, none⟩) cb y s w hy (by omega) (by omega)
  have hL2 := fun M s (hs : s ≤ 64) (h : DigsAt M a (nl x) ca x) => left_any a ca x s M h (by omega) (by omega)
  have HL1 := Lib.hid hL1
  have HL2 := Lib.hid hL2
  clear hL1 hL2
  generalize nl y = n at *
  generalize nl x = k at *
  have hlead := fun w => lead64 (dig y (n - 1)) hd w
  have hsI : (64 : Int) - (bl (dig y (n - 1)) : Int) = ((64 - bl (dig y (n - 1)) : Nat) : Int) := by omega
  rw [hsI] at hlead
  have hs64 : 64 - bl (dig y (n - 1)) ≤ 64 := by omega
  generalize 64 - bl (dig y (n - 1)) = s at *
  have HL := Lib.hid hlead
  have HLS := Lib.hid hls
  have HST := Lib.hid (hstart s)
  have j0 : ((n : Int) - 1).toNat = n - 1 := by omega
  have j1 : (0 : Int) ≤ (n : Int) - 1 := by omega
  have j2 : (n : Int) - 1 < (n : Int) := by omega
  clear hlead hls hstart hc2 hsI
  go_enter Tryz.func209, Tryz.ntmps209
  go_wp2_with (first | (go_at_call 207; refine (HL.out _).mono ?_; rintro e w' ⟨rfl, rfl⟩))
  refine (HL1.out s hs64).mono ?_
  rintro e w1 ⟨a1, c1, rfl, hd1, hb1⟩
  rw [HLS.out] at hd1 ⊢
  have hmk := fun w => mk_run ((k : Int) + 1) (k + 1) (by omega) (by omega) w
  have HB1 := Lib.hid (hb1.trans ((mk_below w1 (k + 1)).mono hb1.size))
  go_wp2_with fail
  refine (HL2.out _ s hs64 (hx.mono HB1.out)).mono ?_
  rintro e w3 ⟨a3, c3, rfl, hd3, hb3⟩
  have hr3 : Row w3 w1.heap.size 0 (k + 1) 0 := (mk_row w1 (k + 1)).mono (by rw [mk_size]; omega) hb3
  have hX3 : x * 2 ^ s < B ^ (k + 1) := by
    rw [Nat.pow_succ]
    exact Nat.mul_lt_mul_of_lt_of_le hxl (by rw [B_two64]; exact Nat.pow_le_pow_right (by omega) hs64) B_pos
  have hk3 : nl (x * 2 ^ s) ≤ k + 1 := nl_le hX3
  have hcp := fun ty => copy_run ty w1.heap.size 0 (k + 1) (k + 1) a3 (nl (x * 2 ^ s)) c3 (x * 2 ^ s) w3 hr3 hd3 hk3
  have hmk2 := fun w => mk_run ((k : Int) - (n : Int) + 1) (k - n + 1) (by omega) (by omega) w
  have hqr : w1.heap.size < w3.heap.size := by have := hb3.size; rw [mk_size] at this; omega
  have hrr4 : Row (mk (rowW w3 w1.heap.size 0 (k + 1) (x * 2 ^ s)) (k - n + 1)) w1.heap.size 0 (k + 1) (x * 2 ^ s) :=
    (hr3.row (x * 2 ^ s)).mono (by rw [rowW_size]; exact hqr) (mk_below _ _)
  have hrq4 : Row (mk (rowW w3 w1.heap.size 0 (k + 1) (x * 2 ^ s)) (k - n + 1)) w3.heap.size 0 (k - n + 1) 0 := by
    have := mk_row (rowW w3 w1.heap.size 0 (k + 1) (x * 2 ^ s)) (k - n + 1)
    rwa [rowW_size] at this
  have hb4 : Below w1.heap.size w1 (mk (rowW w3 w1.heap.size 0 (k + 1) (x * 2 ^ s)) (k - n + 1)) :=
    (rowW_below ((mk_below w1 (k + 1)).trans (hb3.mono (by rw [mk_size]; omega))) (Nat.le_refl _)).trans ((mk_below _ _).mono (by rw [rowW_size]; omega))
  have hz4 : (mk (rowW w3 w1.heap.size 0 (k + 1) (x * 2 ^ s)) (k - n + 1)).heap.size = w3.heap.size + 1 := by rw [mk_size, rowW_size]
  have HR4 := Lib.hid hrr4
  have HQ4 := Lib.hid hrq4
  have HB4 := Lib.hid hb4
  have HZ4 := Lib.hid hz4
  clear hrr4 hrq4 hb4 hz4
  go_wp2_with fail
  clear hcp hmk hmk2
  have hDp : 0 < y * 2 ^ s := Nat.mul_pos (by omega) (Nat.two_pow_pos s)
  have hsx : x * 2 ^ s / (y * 2 ^ s) = x / y := Nat.mul_div_mul_right _ _ (Nat.two_pow_pos s)
  have hsm : x * 2 ^ s % (y * 2 ^ s) / 2 ^ s = x % y := by rw [Nat.mul_mod_mul_right, Nat.mul_div_cancel _ (Nat.two_pow_pos s)]
  have hmx : x * 2 ^ s % (y * 2 ^ s) < B ^ n := Nat.lt_trans (Nat.mod_lt _ hDp) hd1.lt
  have HSX := Lib.hid hsx
  have HSM := Lib.hid hsm
  have hdt : 0 < dig (y * 2 ^ s) (n - 1) := by
    have := dig_top (v := y * 2 ^ s) (by omega)
    rw [HLS.out] at this; omega
  clear hsx hsm hd3 hr3 hb3 hk3
  generalize x * 2 ^ s = X at *
  generalize y * 2 ^ s = D at *
  generalize mk (rowW w3 w1.heap.size 0 (k + 1) X) (k - n + 1) = w4 at *
  generalize w3.heap.size = q at *
  go_loopw [11] (fun i wr => ∃ j : Nat, j ≤ k - n + 1 ∧ i = .int .i64 ((j : Int) - 1) ∧ Hid (Row wr w1.heap.size 0 (k + 1) (X % (D * B ^ j))) ∧ Hid (Row wr q 0 (k - n + 1) (X / (D * B ^ j) * B ^ j)) ∧ Hid (Below w1.heap.size w1 wr) ∧ Hid (wr.heap.size = q + 1)) (fun i _ => (intOf i + 1).toNat)
  case atStart =>
    refine ⟨k - n + 1, Nat.le_refl _, by go_num, ?_, ?_, HB4, HZ4⟩
    · rw [Nat.mod_eq_of_lt HST.out]; exact HR4
    · rw [Nat.div_eq_of_lt HST.out, Nat.zero_mul]; exact HQ4
  case round =>
    clear HR4 HQ4 HB4 HZ4
    obtain ⟨j, hj, rfl, HR, HQ, HB, HZ⟩ := hrel
    by_cases hj0 : j = 0
    · subst hj0
      rw [Nat.pow_zero, Nat.mul_one, Nat.mul_one] at HQ
      rw [Nat.pow_zero, Nat.mul_one] at HR
      have hq1 : DigsAt wr (some ⟨q, 0, none⟩) (k - n + 1) (k - n + 1) (X / D) :=
        HQ.out.digs (by rw [Nat.div_lt_iff_lt_mul hDp, Nat.mul_comm]; exact HST.out) (by rw [HZ.out]; omega) (Nat.le_refl _)
      have hr1 : DigsAt wr (some ⟨w1.heap.size, 0, none⟩) (k + 1) (k + 1) (X % D) :=
        HR.out.digs (Nat.lt_of_lt_of_le hmx (Nat.pow_le_pow_right B_pos (by omega))) (by rw [HZ.out]; omega) (Nat.le_refl _)
      have hr2 := hr1.shrink
      have hnl : nl (X % D) ≤ k + 1 := nl_le hr1.lt
      have HRT := Lib.hid (right_room (some ⟨w1.heap.size, 0, none⟩) (k + 1) (X % D) s wr hr2 (by omega) (by omega))
      have hq2 := hq1.shrink
      go_wp2_with fail
      refine (trim_any _ (k - n + 1) (k - n + 1) (X / D) _ hq1 (by omega)).mono ?_
      rintro e w' ⟨rfl, rfl⟩
      go_wp2_with fail
      refine (trim_any _ (k + 1) (k + 1) (X % D) _ hr1 (by omega)).mono ?_
      rintro e w' ⟨rfl, rfl⟩
      go_wp2_with fail
      refine HRT.out.mono ?_
      rintro e w6 ⟨a6, c6, rfl, hd6, hb6, hR6⟩
      rw [HSM.out] at hd6 ⊢
      go_wp2
      go_ret2
      rw [HSX.out] at hq2 ⊢
      exact ⟨_, _, _, _, rfl, hq2.mono hb6, hd6, (hb1.trans (HB.out.mono hb1.size)).trans (hb6.mono (by rw [HZ.out]; have := hb1.size; omega)), hR6.low (by rw [HZ.out]; have := hb1.size; omega)⟩
    · obtain ⟨i, rfl⟩ : ∃ i, j = i + 1 := ⟨j - 1, by omega⟩
      have e1 : ((i + 1 : Nat) : Int) - 1 = (i : Int) := by omega
      rw [e1]
      obtain ⟨s1, s2, s3, s4, s5, s6⟩ := long_step (X := X) (i := i) hDp hd1.lt
      have hpart := HR.out.part (i := i) (n := n + 1) (by omega)
      rw [Nat.zero_add] at hpart
      have hsep : ∀ c, a1 = some c → n ≠ 0 → c.block ≠ w1.heap.size := by
        intro c hc h0
        obtain ⟨b3, o3, e, hb3, _⟩ := hd1.cells h0
        rw [e] at hc; cases hc; exact Nat.ne_of_lt hb3
      have hdw := hd1.mono HB.out
      have hcap : n + 1 ≤ k + 1 - i := by omega
      have HT := Lib.hid (takeMultiple_any w1.heap.size i n (k + 1 - i) (X % (D * B ^ (i + 1)) / B ^ i) a1 c1 D wr hpart hn2 (by omega) hcap hdw hsep hdt s1)
      clear hpart hsep hdw
      generalize X % (D * B ^ (i + 1)) / B ^ i / D = t at *
      have hpr := rowW_part (u := X % (D * B ^ (i + 1)) / B ^ i % D) HR.out (i := i) (n := n + 1) (by omega) s3
      rw [Nat.zero_add, s5] at hpr
      have HPR := Lib.hid hpr
      have HT' : Hid (Calls Tryz.prog 229 #[.slice (some ⟨w1.heap.size, i, none⟩) ((n + 1 : Nat)) (k + 1 - i), .slice a1 n c1] wr fun e w' =>
        e = .returned (u64 t) ∧ ∃ d, (rowW wr w1.heap.size 0 (k + 1) (X % (D * B ^ i))).drewN d = w') := by rw [hpr] at HT; exact HT
      have HR5 := Lib.hid (HR.out.row (X % (D * B ^ i)))
      generalize X % (D * B ^ (i + 1)) = R at *
      generalize eR : X % (D * B ^ i) = R' at *
      have S6 := Lib.hid s6
      clear HT hpr HPR s1 s3 s4 s5 s6
      generalize X / (D * B ^ (i + 1)) * B ^ (i + 1) = Q at *
      generalize eQ : X / (D * B ^ i) * B ^ i = Q' at *
      have ER := Lib.hid eR
      have EQ := Lib.hid eQ
      clear eR eQ
      go_wp2_with fail
      rw [show i + n + 1 - i = n + 1 by omega]
      refine HT'.out.mono ?_
      rintro e w5' ⟨rfl, d, rfl⟩
      have hR5 : Row ((rowW wr w1.heap.size 0 (k + 1) R').drewN d) w1.heap.size 0 (k + 1) R' := HR5.out.drawn d
      have hQ5 : Row ((rowW wr w1.heap.size 0 (k + 1) R').drewN d) q 0 (k - n + 1) Q := (HQ.out.apart (by omega)).drawn d
      have hB5 : Below w1.heap.size w1 ((rowW wr w1.heap.size 0 (k + 1) R').drewN d) := below_drawn (rowW_below HB.out (Nat.le_refl _)) d
      have hZ5 : ((rowW wr w1.heap.size 0 (k + 1) R').drewN d).heap.size = q + 1 := (rowW_size ..).trans HZ.out
      clear HT' HR HQ HB HZ HR5
      generalize (rowW wr w1.heap.size 0 (k + 1) R').drewN d = w5 at *
      obtain ⟨t1, t2⟩ := hQ5.set (i := i) (by omega) s2 S6.out
      have g2 : w5.cell? ⟨q, i, none⟩ = some (u64 (dig Q i)) := by
        have := hQ5.cell (u := Q) (i := i) (by omega); rwa [hQ5.self, Nat.zero_add] at this
      have g3 : w5.frozen? ⟨q, i, none⟩ = false := by
        have := hQ5.free (u := Q) (i := i) (by omega); rwa [hQ5.self, Nat.zero_add] at this
      rw [Nat.zero_add] at t1
      have T1 := Lib.hid t1
      clear t1
      go_wp2
      go_roundw
      case rel =>
        refine ⟨i, by omega, by go_num, ?_, ?_, ?_, ?_⟩
        · rw [T1.out, ER.out]; exact Lib.hid (hR5.apart (Nat.ne_of_lt hqr))
        · rw [T1.out, EQ.out]; exact Lib.hid t2
        · rw [T1.out]; exact Lib.hid (rowW_below hB5 (by omega))
        · rw [T1.out]; exact Lib.hid ((rowW_size ..).trans hZ5)
      case measure => simp [intOf]
end Go.Proofs.YtlncagdekfjinaaGreatDoor
