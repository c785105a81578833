/- math/bits.Div64: two words by one. -/
import Derived.Test.YtlncagdekfjinaaGreatDoorBase
import Derived.Test.YtlncagdekfjinaaGreatDoorHalf
import Derived.Laws.BitsAllLaws
import Derived.Deep.CutBlock
import Derived.Deep.DeepCutAuto
namespace Go.Proofs.YtlncagdekfjinaaGreatDoor
open Go.RowKit Go.Sort Dg
theorem half_wrap {u u1 T Y r : Nat} (h1 : T * Y ≤ u * H + u1) (h2 : u * H + u1 - T * Y = r) (hr : r < B) :
    IntKind.u64.wrap (IntKind.u64.wrap (IntKind.u64.wrap ((u : Int) * 4294967296) + (u1 : Int)) - IntKind.u64.wrap ((T : Int) * (Y : Int))) = (r : Int) := by
  rw [← Int.natCast_mul T Y, IntKind.wrap_u64, IntKind.wrap_u64, IntKind.wrap_u64, IntKind.wrap_u64]
  unfold H B at *
  generalize T * Y = z at *
  omega
set_option maxRecDepth 100000 in
set_option maxHeartbeats 4000000 in
theorem div64_any (hi lo y : Nat) (hlo : lo < B) (hy : y < B) (hhi : hi < y) (w : World) :
    Calls Tryz.prog 197 #[u64 hi, u64 lo, u64 y] w fun e w' => e = .returned (.tuple #[u64 ((hi * B + lo) / y), u64 ((hi * B + lo) % y)]) ∧ ∃ q, w.drewN q = w' := by
  have hy0 : ((y : Int) == 0) = false := by rw [beq_eq_false_iff_ne]; omega
  have hi0 : (hi : Int) < (y : Int) := by omega
  have hlo' : lo ≤ 18446744073709551615 := by unfold B at hlo; omega
  have hy' : y ≤ 18446744073709551615 := by unfold B at hy; omega
  by_cases hz : hi = 0
  · subst hz
    rw [Nat.zero_mul, Nat.zero_add]
    have e1 : ¬ ((y : Int) = 0) := by omega
    go_enter Tryz.func197, Tryz.ntmps197
    have hq : IntKind.u64.wrap ((lo : Int) / (y : Int)) = ((lo / y : Nat) : Int) := by
      rw [← Int.natCast_ediv, wrapU, Nat.mod_eq_of_lt (Nat.lt_of_le_of_lt (Nat.div_le_self _ _) hlo)]
    have hm : ((lo : Int) % (y : Int)) = ((lo % y : Nat) : Int) := (Int.natCast_emod _ _).symm
    go_wp2
    go_quiet (fail)
    go_wp2
    go_ret2
    exact ⟨rfl, _, rfl⟩
  · have hz1 : ((hi : Int) == 0) = false := by rw [beq_eq_false_iff_ne]; omega
    -- the numbers of the text
    have hyz : y ≠ 0 := by omega
    have hbl : bl y ≤ 64 := bl_le (by rw [← B_two64]; exact hy)
    have hbp := bl_pos hyz
    obtain ⟨s, hs⟩ : ∃ s, 64 - bl y = s := ⟨_, rfl⟩
    have hs64 : s ≤ 63 := by omega
    obtain ⟨Y, hY⟩ : ∃ Y, y * 2 ^ s = Y := ⟨_, rfl⟩
    have hYB : Y < B := by
      rw [← hY, B_two64, show 64 = bl y + s by omega, Nat.pow_add]; exact Nat.mul_lt_mul_of_pos_right (lt_bl y) (Nat.pow_pos (by omega))
    have hYH : 9223372036854775808 ≤ Y := by
      have h1 := Nat.mul_le_mul_right (2 ^ s) (le_of_bl hyz)
      rw [← Nat.pow_add, hY, show bl y - 1 + s = 63 by omega] at h1
      exact h1
    obtain ⟨y1, hy1⟩ : ∃ z, Y / H = z := ⟨_, rfl⟩
    obtain ⟨y0, hy0'⟩ : ∃ z, Y % H = z := ⟨_, rfl⟩
    have hY10 : Y = y1 * H + y0 := by rw [← hy1, ← hy0', Nat.mul_comm]; exact (Nat.div_add_mod _ _).symm
    have hy0H : y0 < H := by rw [← hy0']; exact Nat.mod_lt _ H_pos
    have hy1H : 2147483648 ≤ y1 := by unfold H at *; omega
    have hy1L : y1 < H := by unfold H B at *; omega
    obtain ⟨u32, hu32⟩ : ∃ z, hi * 2 ^ s + lo / 2 ^ (64 - s) = z := ⟨_, rfl⟩
    obtain ⟨u10, hu10⟩ : ∃ z, lo * 2 ^ s % B = z := ⟨_, rfl⟩
    have hB2 := two_split (s := s) (by omega)
    have hls : lo * 2 ^ s / B = lo / 2 ^ (64 - s) := by rw [hB2, Nat.mul_comm (2 ^ s), Nat.mul_div_mul_right _ _ (Nat.pow_pos (by omega))]
    have hU : (hi * B + lo) * 2 ^ s = u32 * B + u10 := by
      have h1 := Nat.mod_add_div (lo * 2 ^ s) B
      rw [hu10, hls, Nat.mul_comm B] at h1
      rw [Nat.add_mul, ← h1, ← hu32, Nat.add_mul]
      have : hi * B * 2 ^ s = hi * 2 ^ s * B := by rw [Nat.mul_right_comm]
      omega
    have hu10B : u10 < B := by rw [← hu10]; exact Nat.mod_lt _ B_pos
    have hu32Y : u32 < Y := by
      have h1 : (hi * B + lo) * 2 ^ s < y * B * 2 ^ s := Nat.mul_lt_mul_of_pos_right (by have := Nat.mul_le_mul_right B (show hi + 1 ≤ y from hhi); rw [Nat.add_mul] at this; omega) (Nat.pow_pos (by omega))
      rw [hU, Nat.mul_right_comm, hY] at h1
      exact Nat.lt_of_mul_lt_mul_right (Nat.lt_of_le_of_lt (Nat.le_add_right _ _) h1)
    have hhis : hi * 2 ^ s < B := Nat.lt_trans (by rw [← hY]; exact Nat.mul_lt_mul_of_pos_right hhi (Nat.pow_pos (by omega))) hYB
    obtain ⟨un1, hun1⟩ : ∃ z, u10 / H = z := ⟨_, rfl⟩
    obtain ⟨un0, hun0⟩ : ∃ z, u10 % H = z := ⟨_, rfl⟩
    have hun1H : un1 < H := by unfold H B at *; omega
    have hun0H : un0 < H := by rw [← hun0]; exact Nat.mod_lt _ H_pos
    obtain ⟨T1, hT1⟩ : ∃ z, (u32 * H + un1) / Y = z := ⟨_, rfl⟩
    obtain ⟨u21, hu21⟩ : ∃ z, (u32 * H + un1) % Y = z := ⟨_, rfl⟩
    obtain ⟨T0, hT0⟩ : ∃ z, (u21 * H + un0) / Y = z := ⟨_, rfl⟩
    have hu21Y : u21 < Y := by rw [← hu21]; exact Nat.mod_lt _ (by omega)
    have hfin := halves (q1 := T1) (u21 := u21) (q0 := T0) hY.symm (by omega) hU (by rw [hun1]; exact hT1) (by rw [hun1]; exact hu21) (by rw [hun0]; exact hT0)
    obtain ⟨qa, hqa⟩ : ∃ z, u32 / y1 = z := ⟨_, rfl⟩
    obtain ⟨ra, hra⟩ : ∃ z, u32 % y1 = z := ⟨_, rfl⟩
    have hqr : qa * y1 + ra = u32 := by rw [← hqa, ← hra, Nat.mul_comm]; exact Nat.div_add_mod _ _
    have hTa := half_first hY10 (by omega) hun1H hT1
    have hqM := half_most hY10 hy0H hy1H hu32Y
    rw [hqa] at hTa hqM
    have hraL : ra < y1 := by rw [← hra]; exact Nat.mod_lt _ (by omega)
    -- how the walk spells them
    have R1 : IntKind.u64.wrap ((y : Int) * 2 ^ s) = (Y : Int) := by rw [shl_cast, wrapU, hY, Nat.mod_eq_of_lt hYB]
    have R2 : bits .or .u64 (IntKind.u64.wrap ((hi : Int) * 2 ^ s)) ((lo : Int) / 2 ^ (64 - s)) = (u32 : Int) := by
      have hlo2 : lo / 2 ^ (64 - s) < 2 ^ s := by rw [Nat.div_lt_iff_lt_mul (Nat.pow_pos (by omega)), ← hB2]; exact hlo
      rw [shl_cast, shr_cast, wrapU, Nat.mod_eq_of_lt hhis, or_cast _ _ hhis (Nat.lt_of_le_of_lt (Nat.div_le_self _ _) hlo), ← hu32, Nat.or_comm, Nat.mul_comm hi, or_disjoint hlo2, Nat.add_comm]
    have R3 : IntKind.u64.wrap ((lo : Int) * 2 ^ s) = (u10 : Int) := by rw [shl_cast, wrapU, hu10]
    have R4 : bits .and .u64 (Y : Int) 4294967295 = (y0 : Int) := by
      rw [← hy0']; exact (u64_and_nat Y 4294967295 hYB (by omega)).trans (by rw [show 4294967295 = 2 ^ 32 - 1 by decide, Nat.and_two_pow_sub_one_eq_mod]; rfl)
    have R5 : (Y : Int) / 4294967296 = (y1 : Int) := by rw [← hy1]; unfold H; omega
    have R6 : bits .and .u64 (u10 : Int) 4294967295 = (un0 : Int) := by
      rw [← hun0]; exact (u64_and_nat u10 4294967295 hu10B (by omega)).trans (by rw [show 4294967295 = 2 ^ 32 - 1 by decide, Nat.and_two_pow_sub_one_eq_mod]; rfl)
    have R7 : (u10 : Int) / 4294967296 = (un1 : Int) := by rw [← hun1]; unfold H; omega
    have R8 : IntKind.u64.wrap ((u32 : Int) / (y1 : Int)) = (qa : Int) := by
      rw [← Int.natCast_ediv, wrapU, hqa, Nat.mod_eq_of_lt (by unfold H B at *; omega)]
    have R9 : IntKind.u64.wrap ((qa : Int) * (y1 : Int)) = ((qa * y1 : Nat) : Int) := by
      rw [← Int.natCast_mul, wrapU, Nat.mod_eq_of_lt (by omega)]
    have hy1z : ¬ ((y1 : Int) = 0) := by omega
    have hcontract := fun w => lead64 y hy w
    rw [show (64 - (bl y : Int)) = (s : Int) by omega] at hcontract
    have HC := Lib.hid hcontract
    have h1Y : (Y : Int) ≤ 18446744073709551615 := by unfold B at hYB; omega
    have hsI : (s : Int) ≤ 63 := by omega
    obtain ⟨pa, hpa⟩ : ∃ z, qa * y1 = z := ⟨_, rfl⟩
    rw [hpa] at R9
    have R10 : (u32 : Int) - (pa : Int) = (ra : Int) := by omega
    have h21 := half_rest (u1 := un1) hu32Y hT1
    rw [hu21] at h21
    have h21b := half_rest (u1 := un0) hu21Y hT0
    obtain ⟨rr, hrr⟩ : ∃ z, (u21 * H + un0) % Y = z := ⟨_, rfl⟩
    rw [hrr] at h21b
    rw [hun0, hrr] at hfin
    have HF2 := Lib.hid hfin
    have hT1H := half_lt hu32Y hun1H hT1
    have hT0H := half_lt hu21Y hun0H hT0
    obtain ⟨qb, hqb⟩ : ∃ z, u21 / y1 = z := ⟨_, rfl⟩
    obtain ⟨rb, hrb⟩ : ∃ z, u21 % y1 = z := ⟨_, rfl⟩
    have hqrb : qb * y1 + rb = u21 := by rw [← hqb, ← hrb, Nat.mul_comm]; exact Nat.div_add_mod _ _
    have hTb := half_first hY10 (by omega) hun0H hT0
    have hqbM := half_most hY10 hy0H hy1H hu21Y
    rw [hqb] at hTb hqbM
    have hrbL : rb < y1 := by rw [← hrb]; exact Nat.mod_lt _ (by omega)
    obtain ⟨pb, hpb⟩ : ∃ z, qb * y1 = z := ⟨_, rfl⟩
    have S1 : IntKind.u64.wrap (IntKind.u64.wrap (IntKind.u64.wrap ((u32 : Int) * 4294967296) + (un1 : Int)) - IntKind.u64.wrap ((T1 : Int) * (Y : Int))) = (u21 : Int) := half_wrap h21.1 h21.2.2 (Nat.lt_trans hu21Y hYB)
    have S2 : IntKind.u64.wrap ((u21 : Int) / (y1 : Int)) = (qb : Int) := by
      rw [← Int.natCast_ediv, wrapU, hqb, Nat.mod_eq_of_lt (by unfold H B at *; omega)]
    have S3 : IntKind.u64.wrap ((qb : Int) * (y1 : Int)) = (pb : Int) := by
      rw [← Int.natCast_mul, wrapU, hpb, Nat.mod_eq_of_lt (by omega)]
    have S4 : (u21 : Int) - (pb : Int) = (rb : Int) := by omega
    have S5 : IntKind.u64.wrap (IntKind.u64.wrap (IntKind.u64.wrap ((u21 : Int) * 4294967296) + (un0 : Int)) - IntKind.u64.wrap ((T0 : Int) * (Y : Int))) = (rr : Int) := half_wrap h21b.1 h21b.2.2 (by have := Nat.mod_lt (u21 * H + un0) (show Y > 0 by omega); omega)
    have S6 : ((rr : Int) / 2 ^ s) = ((rr / 2 ^ s : Nat) : Int) := shr_cast _ _
    have HS1 := Lib.hid S1
    have HS2 := Lib.hid S2
    have HS3 := Lib.hid S3
    have HS4 := Lib.hid S4
    have HS5 := Lib.hid S5
    have HS6 := Lib.hid S6
    have HQRB := Lib.hid hqrb
    clear S1 S2 S3 S4 S5 S6 hqrb h21 h21b hrr hqb hrb hpb
    have HY10 := Lib.hid hY10
    have HT1 := Lib.hid hT1
    have HPA := Lib.hid hpa
    have HQR := Lib.hid hqr
    clear hcontract hY10 hT1 hpa hqr hs hY hy1 hy0' hu32 hu10 hls hU hfin hun1 hun0 hB2 hbl hbp hqa hra
    have HU21 := Lib.hid hu21
    have HT0 := Lib.hid hT0
    clear hu21 hT0
    go_enter Tryz.func197, Tryz.ntmps197
    go_wp2_with fail
    refine (HC.out _).mono ?_
    rintro e w' ⟨rfl, rfl⟩
    have hraH : ra ≤ 4294967295 := by unfold H at hy1L; omega
    have hqM' : qa ≤ 4294967297 := by unfold H at hqM; omega
    have hun1' : un1 ≤ 4294967295 := by unfold H at hun1H; omega
    have hun0' : un0 ≤ 4294967295 := by unfold H at hun0H; omega
    have hy1' : y1 ≤ 4294967295 := by unfold H at hy1L; omega
    have hy0'' : y0 ≤ 4294967295 := by unfold H at hy0H; omega
    have hrbH : rb ≤ 4294967295 := by unfold H at hy1L; omega
    have hqbM' : qb ≤ 4294967297 := by unfold H at hqbM; omega
    have hT1' : T1 ≤ 4294967295 := by unfold H at hT1H; omega
    have hT0' : T0 ≤ 4294967295 := by unfold H at hT0H; omega
    go_upto_block 0 with fail
    clear R1 R2 R3 R4 R5 R6 R7 R8 R9 R10 hqM hqbM
    go_cut [15] (fun a wx => a = u64 T1 ∧ w = wx)
    case first =>
      go_wp2_with fail
      go_loop [15, 16] (fun a r => ∃ q k : Nat, a = u64 q ∧ r = u64 k ∧ Hid (q * y1 + k = u32) ∧ T1 ≤ q ∧ q ≤ 4294967297 ∧ k ≤ 4294967295) (fun a _ => (intOf a).toNat)
      case atStart => exact ⟨qa, ra, rfl, rfl, HQR, hTa, hqM', hraH⟩
      case round =>
        obtain ⟨q, k, rfl, rfl, hqk, hTq, hqm, hkm⟩ := hrel
        obtain ⟨pq, hpq⟩ : ∃ z, q * y0 = z := ⟨_, rfl⟩
        have hpqB : pq ≤ 18446744073709551615 := by
          have := Nat.mul_le_mul hqm hy0''
          omega
        have R1 : IntKind.u64.wrap ((q : Int) * (y0 : Int)) = (pq : Int) := by rw [← Int.natCast_mul, wrapU, hpq, Nat.mod_eq_of_lt (by unfold B; omega)]
        by_cases hbig : 4294967296 ≤ q ∨ 4294967296 * k + un1 < pq
        · have hlt := half_less HY10.out hu32Y hun1H HT1.out hqk.out (by rw [hpq]; exact hbig)
          have hnext : (q - 1) * y1 + (k + y1) = u32 := by
            have h1 := hqk.out
            obtain ⟨q', rfl⟩ : ∃ q', q = q' + 1 := ⟨q - 1, by omega⟩
            rw [Nat.add_mul] at h1
            rw [Nat.add_sub_cancel]; omega
          have HN := Lib.hid hnext
          have HP := Lib.hid hpq
          clear hnext hpq
          have a1 : q ≥ 1 := by omega
          by_cases hr : k + y1 ≤ 4294967295
          · have b3 : decide ((4294967296 : Int) ≤ (k : Int) + (y1 : Int)) = false := by simp; omega
            have b4 : ¬ ((4294967296 : Int) ≤ (k : Int) + (y1 : Int)) := by omega
            by_cases hb1 : 4294967296 ≤ q
            · have b1 : (4294967296 : Int) ≤ (q : Int) := by omega
              have b2 : decide ((4294967296 : Int) ≤ (q : Int)) = true := by simpa using b1
              clear hb1 hbig
              go_wp2
              go_round
              case rel => exact ⟨q - 1, k + y1, by go_num, by go_num, HN, by omega, by omega, by omega⟩
              case measure => simp [intOf]; omega
            · have hb2 : 4294967296 * k + un1 < pq := by omega
              have b1 : ¬ ((4294967296 : Int) ≤ (q : Int)) := by omega
              have b2 : decide ((4294967296 : Int) ≤ (q : Int)) = false := by simp; omega
              have b5 : (4294967296 : Int) * (k : Int) + (un1 : Int) < (pq : Int) := by omega
              clear hb1 hb2 hbig
              go_wp2
              go_round
              case rel => exact ⟨q - 1, k + y1, by go_num, by go_num, HN, by omega, by omega, by omega⟩
              case measure => simp [intOf]; omega
          · have hq1 : q - 1 = T1 := half_break HY10.out hy0H hy1H hu32Y HT1.out HN.out (by omega) (by unfold H; omega)
            have R15 : (q : Int) - 1 = (T1 : Int) := by omega
            have b4 : (4294967296 : Int) ≤ (k : Int) + (y1 : Int) := by omega
            have b3 : decide ((4294967296 : Int) ≤ (k : Int) + (y1 : Int)) = true := by simpa using b4
            by_cases hb1 : 4294967296 ≤ q
            · have b1 : (4294967296 : Int) ≤ (q : Int) := by omega
              have b2 : decide ((4294967296 : Int) ≤ (q : Int)) = true := by simpa using b1
              clear hb1 hbig hq1 hr
              go_wp2
              go_meet
              exact ⟨rfl, rfl⟩
            · have hb2 : 4294967296 * k + un1 < pq := by omega
              have b1 : ¬ ((4294967296 : Int) ≤ (q : Int)) := by omega
              have b2 : decide ((4294967296 : Int) ≤ (q : Int)) = false := by simp; omega
              have b5 : (4294967296 : Int) * (k : Int) + (un1 : Int) < (pq : Int) := by omega
              clear hb1 hb2 hbig hq1 hr
              go_wp2
              go_meet
              exact ⟨rfl, rfl⟩
        · have hq1 : T1 = q := (half_right HY10.out hu32Y HT1.out hqk.out hTq (by rw [hpq]; unfold H; omega)).symm
          have b1 : ¬ ((4294967296 : Int) ≤ (q : Int)) := by omega
          have b2 : decide ((4294967296 : Int) ≤ (q : Int)) = false := by simp; omega
          have b5 : ¬ ((4294967296 : Int) * (k : Int) + (un1 : Int) < (pq : Int)) := by omega
          have HP := Lib.hid hpq
          clear hbig hpq
          subst hq1
          go_wp2
          go_meet
          exact ⟨rfl, rfl⟩
    case rest =>
      obtain ⟨rfl, rfl⟩ := hcut
      have S1 := HS1.out
      have S2 := HS2.out
      have S3 := HS3.out
      have S4 := HS4.out
      go_upto_block 2 with fail
      clear S1 S2 S3 S4
      go_cut [18] (fun a wx => a = u64 T0 ∧ w = wx)
      case first =>
        go_wp2_with fail
        go_loop [18, 16] (fun a r => ∃ q k : Nat, a = u64 q ∧ r = u64 k ∧ Hid (q * y1 + k = u21) ∧ T0 ≤ q ∧ q ≤ 4294967297 ∧ k ≤ 4294967295) (fun a _ => (intOf a).toNat)
        case atStart => exact ⟨qb, rb, rfl, rfl, HQRB, hTb, hqbM', hrbH⟩
        case round =>
          obtain ⟨qb, kb, rfl, rfl, hqkb, hTqb, hqmb, hkmb⟩ := hrel
          obtain ⟨pqb, hpqb⟩ : ∃ z, qb * y0 = z := ⟨_, rfl⟩
          have hpqBb : pqb ≤ 18446744073709551615 := by
            have := Nat.mul_le_mul hqmb hy0''
            omega
          have R1b : IntKind.u64.wrap ((qb : Int) * (y0 : Int)) = (pqb : Int) := by rw [← Int.natCast_mul, wrapU, hpqb, Nat.mod_eq_of_lt (by unfold B; omega)]
          by_cases hbigb : 4294967296 ≤ qb ∨ 4294967296 * kb + un0 < pqb
          · have hltb := half_less HY10.out hu21Y hun0H HT0.out hqkb.out (by rw [hpqb]; exact hbigb)
            have hnextb : (qb - 1) * y1 + (kb + y1) = u21 := by
              have h1 := hqkb.out
              obtain ⟨q', rfl⟩ : ∃ q', qb = q' + 1 := ⟨qb - 1, by omega⟩
              rw [Nat.add_mul] at h1
              rw [Nat.add_sub_cancel]; omega
            have HNb := Lib.hid hnextb
            have HPb := Lib.hid hpqb
            clear hnextb hpqb
            have a1b : qb ≥ 1 := by omega
            by_cases hrb : kb + y1 ≤ 4294967295
            · have b3 : decide ((4294967296 : Int) ≤ (kb : Int) + (y1 : Int)) = false := by simp; omega
              have b4 : ¬ ((4294967296 : Int) ≤ (kb : Int) + (y1 : Int)) := by omega
              by_cases hb1b : 4294967296 ≤ qb
              · have b1 : (4294967296 : Int) ≤ (qb : Int) := by omega
                have b2 : decide ((4294967296 : Int) ≤ (qb : Int)) = true := by simpa using b1
                clear hb1b hbigb
                go_wp2
                go_round
                case rel => exact ⟨qb - 1, kb + y1, by go_num, by go_num, HNb, by omega, by omega, by omega⟩
                case measure => simp [intOf]; omega
              · have hb2b : 4294967296 * kb + un0 < pqb := by omega
                have b1 : ¬ ((4294967296 : Int) ≤ (qb : Int)) := by omega
                have b2 : decide ((4294967296 : Int) ≤ (qb : Int)) = false := by simp; omega
                have b5 : (4294967296 : Int) * (kb : Int) + (un0 : Int) < (pqb : Int) := by omega
                clear hb1b hb2b hbigb
                go_wp2
                go_round
                case rel => exact ⟨qb - 1, kb + y1, by go_num, by go_num, HNb, by omega, by omega, by omega⟩
                case measure => simp [intOf]; omega
            · have hq1b : qb - 1 = T0 := half_break HY10.out hy0H hy1H hu21Y HT0.out HNb.out (by omega) (by unfold H; omega)
              have R15b : (qb : Int) - 1 = (T0 : Int) := by omega
              have b4 : (4294967296 : Int) ≤ (kb : Int) + (y1 : Int) := by omega
              have b3 : decide ((4294967296 : Int) ≤ (kb : Int) + (y1 : Int)) = true := by simpa using b4
              by_cases hb1b : 4294967296 ≤ qb
              · have b1 : (4294967296 : Int) ≤ (qb : Int) := by omega
                have b2 : decide ((4294967296 : Int) ≤ (qb : Int)) = true := by simpa using b1
                clear hb1b hbigb hq1b hrb
                go_wp2
                go_meet
                exact ⟨rfl, rfl⟩
              · have hb2b : 4294967296 * kb + un0 < pqb := by omega
                have b1 : ¬ ((4294967296 : Int) ≤ (qb : Int)) := by omega
                have b2 : decide ((4294967296 : Int) ≤ (qb : Int)) = false := by simp; omega
                have b5 : (4294967296 : Int) * (kb : Int) + (un0 : Int) < (pqb : Int) := by omega
                clear hb1b hb2b hbigb hq1b hrb
                go_wp2
                go_meet
                exact ⟨rfl, rfl⟩
          · have hq1b : T0 = qb := (half_right HY10.out hu21Y HT0.out hqkb.out hTqb (by rw [hpqb]; unfold H; omega)).symm
            have b1 : ¬ ((4294967296 : Int) ≤ (qb : Int)) := by omega
            have b2 : decide ((4294967296 : Int) ≤ (qb : Int)) = false := by simp; omega
            have b5 : ¬ ((4294967296 : Int) * (kb : Int) + (un0 : Int) < (pqb : Int)) := by omega
            have HPb := Lib.hid hpqb
            clear hbigb hpqb
            subst hq1b
            go_wp2
            go_meet
            exact ⟨rfl, rfl⟩
      case rest =>
        obtain ⟨rfl, rfl⟩ := hcut
        have S5 := HS5.out
        go_wp2
        go_ret2
        refine ⟨?_, 0, rfl⟩
        obtain ⟨f1, f2⟩ := HF2.out
        rw [← f1, ← f2]
        have e1 : Value.int .u64 ((T1 : Int) * 4294967296 + (T0 : Int)) = u64 (T1 * H + T0) := by unfold H; go_num
        have e2 : Value.int .u64 ((rr : Int) / 2 ^ s) = u64 (rr / 2 ^ s) := by rw [shr_cast]
        rw [← e1, ← e2]
        rfl
end Go.Proofs.YtlncagdekfjinaaGreatDoor
