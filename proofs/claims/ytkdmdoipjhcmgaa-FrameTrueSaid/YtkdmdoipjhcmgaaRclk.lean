/- Clocks: the reference's functions. -/
import Derived.Test.YtkdmdoipjhcmgaaAgree
namespace Go.Proofs.Ytkdmdoipjhcmgaa
open Go.RowKit

theorem within_yes (n m : Int) (w : World) (h0 : 0 ≤ n) (h1 : n ≤ m) : Calls Try.prog 43 #[.int .i64 n, .int .i64 0, .int .i64 m] w fun e w' => e = .returned (.bool true) ∧ w = w' := by
  go_enter Try.func43, Try.ntmps43
  go_wp2
  go_ret
  exact ⟨rfl, rfl⟩
theorem within_no (n m : Int) (w : World) (h : ¬ (0 ≤ n ∧ n ≤ m)) : Calls Try.prog 43 #[.int .i64 n, .int .i64 0, .int .i64 m] w fun e w' => e = .returned (.bool false) ∧ w = w' := by
  by_cases h0 : 0 ≤ n
  · have h1 : m < n := by omega
    have hd : decide (n ≤ m) = false := by simpa using h1
    go_enter Try.func43, Try.ntmps43
    go_wp2
    go_ret
    exact ⟨rfl, rfl⟩
  · go_enter Try.func43, Try.ntmps43
    go_wp2
    go_ret
    exact ⟨rfl, rfl⟩

theorem by_any (life c lo hi clock drift : Int) (w : World) (h1 : 0 ≤ c) (h2 : c ≤ 1099511627776) (h3 : 0 ≤ lo) (h4 : lo ≤ 1099511627776) (h5 : 0 ≤ hi) (h6 : hi ≤ 1099511627776)
    (h7 : 0 ≤ clock) (h8 : clock ≤ 1099511627776) (h9 : 0 ≤ drift) (h10 : drift ≤ 100000) :
    Calls Try.prog 57 #[ckV life c lo hi, .int .i64 drift, .int .i64 clock] w fun e w' =>
      e = .returned (rg (lo + (clock - c) - wrg (clock - c) drift) (hi + (clock - c) + wrg (clock - c) drift)) ∧ Below w.heap.size w w' := by
  by_cases hp : c ≤ clock
  · have e0 : wrg (clock - c) drift = ((clock - c) * drift + 999999) / 1000000 := by unfold wrg; rw [show max (clock - c) (-(clock - c)) = clock - c by omega]
    have m0 : 0 ≤ (clock - c) * drift := Int.mul_nonneg (by omega) h9
    have m1 : (clock - c) * drift ≤ 1099511627776 * 100000 := Int.mul_le_mul (by omega) h10 h9 (by omega)
    rw [e0]
    clear e0
    go_enter Try.func57, Try.ntmps57
    go_wp2
    refine bodyPost_ret (v := rg (lo + (clock - c) - ((clock - c) * drift + 999999) / 1000000) (hi + (clock - c) + ((clock - c) * drift + 999999) / 1000000)) (by simp [results, Try.results57, go_sem, rg]) rfl ⟨rfl, ?_⟩
    exact ((Below.refl _ _).alloc (Nat.le_refl _) _).alloc (by simp) _
  · have e0 : wrg (clock - c) drift = (-(clock - c) * drift + 999999) / 1000000 := by unfold wrg; rw [show max (clock - c) (-(clock - c)) = -(clock - c) by omega]
    have m0 : 0 ≤ -(clock - c) * drift := Int.mul_nonneg (by omega) h9
    have m1 : -(clock - c) * drift ≤ 1099511627776 * 100000 := Int.mul_le_mul (by omega) h10 h9 (by omega)
    rw [e0]
    clear e0
    go_enter Try.func57, Try.ntmps57
    go_wp2
    refine bodyPost_ret (v := rg (lo + (clock - c) - (-(clock - c) * drift + 999999) / 1000000) (hi + (clock - c) + (-(clock - c) * drift + 999999) / 1000000)) (by simp [results, Try.results57, go_sem, rg]) rfl ⟨rfl, ?_⟩
    exact ((Below.refl _ _).alloc (Nat.le_refl _) _).alloc (by simp) _

theorem valids_any (a : Option Addr) (l : List Ck) (cap : Nat) (d : Int) (w : World) (hl : CksAt w w.heap.size a l) (hm : l.length ≤ 9223372036854775807) :
    Calls Try.prog 56 #[.slice a l.length cap, .int .i64 d] w fun e w' => e = .returned (.int .i64 (chk l d)) ∧ Below w.heap.size w w' := by
  by_cases h16 : 16 < l.length
  · have e0 : chk l d = 4 := by unfold chk; rw [if_pos h16]
    rw [e0]
    clear e0
    go_enter Try.func56, Try.ntmps56
    go_wp2
    go_ret
    exact ⟨rfl, Below.refl _ _⟩
  · by_cases hd : 0 ≤ d ∧ d ≤ 100000
    · have e0 : chk l d = ckErr l := by unfold chk; rw [if_neg h16, if_neg (by omega)]
      rw [e0]
      clear e0
      go_enter Try.func56, Try.ntmps56
      go_wp2_with fail
      refine (within_yes _ _ _ (by omega) (by omega)).mono ?_
      rintro e w' ⟨rfl, rfl⟩
      go_wp2
      go_loopw [5] (fun i wr => ∃ k : Nat, k ≤ l.length ∧ i = .int .i64 k ∧ Hid (ckErr (l.take k) = 0) ∧ Below w.heap.size w wr) (fun i _ => l.length - (intOf i).toNat)
      case atStart => exact ⟨0, Nat.zero_le _, rfl, Lib.hid rfl, Below.refl _ _⟩
      case round =>
        obtain ⟨k, hk, rfl, hE, hb⟩ := hrel
        by_cases hlt : k < l.length
        · obtain ⟨ad, rfl, hlt2, hc⟩ := (hl.mono hb) (by omega)
          obtain ⟨c0, c1, c2, c3⟩ := hc k hlt
          have hT := Lib.hid (ckErr_take l k hlt hE.out)
          have hS := Lib.hid (ckErr_snoc l k hlt hE.out)
          clear hc hE hl
          generalize l[k] = c at *
          obtain ⟨li, cl, lo, hi⟩ := c
          simp only at c0 c1 c2 c3
          by_cases hA : 0 ≤ li ∧ li ≤ 255
          · by_cases hB : 0 ≤ cl ∧ cl ≤ 1099511627776
            · by_cases hC : 0 ≤ lo ∧ lo ≤ 1099511627776
              · by_cases hD : 0 ≤ hi ∧ hi ≤ 1099511627776
                · by_cases hF : hi < lo
                  · go_wp2_with fail
                    refine (within_yes _ _ _ (by omega) (by omega)).mono ?_
                    rintro e w' ⟨rfl, rfl⟩
                    go_wp2_with fail
                    refine (within_yes _ _ _ (by omega) (by omega)).mono ?_
                    rintro e w' ⟨rfl, rfl⟩
                    go_wp2_with fail
                    refine (within_yes _ _ _ (by omega) (by omega)).mono ?_
                    rintro e w' ⟨rfl, rfl⟩
                    go_wp2_with fail
                    refine (within_yes _ _ _ (by omega) (by omega)).mono ?_
                    rintro e w' ⟨rfl, rfl⟩
                    go_wp2
                    go_ret
                    exact ⟨ret_int (by rw [hT.out, show ckE ⟨li, cl, lo, hi⟩ = 7 by unfold ckE; rw [if_neg (by simp only; omega), if_neg (by simp only; omega), if_pos hF]]; rfl), hb.alloc hb.size _⟩
                  · go_wp2_with fail
                    refine (within_yes _ _ _ (by omega) (by omega)).mono ?_
                    rintro e w' ⟨rfl, rfl⟩
                    go_wp2_with fail
                    refine (within_yes _ _ _ (by omega) (by omega)).mono ?_
                    rintro e w' ⟨rfl, rfl⟩
                    go_wp2_with fail
                    refine (within_yes _ _ _ (by omega) (by omega)).mono ?_
                    rintro e w' ⟨rfl, rfl⟩
                    go_wp2_with fail
                    refine (within_yes _ _ _ (by omega) (by omega)).mono ?_
                    rintro e w' ⟨rfl, rfl⟩
                    go_wp2
                    go_roundw
                    case rel => exact ⟨k + 1, by omega, by go_num, Lib.hid (by rw [hS.out]; unfold ckE; rw [if_neg (by simp only; omega), if_neg (by simp only; omega), if_neg (by simp only; omega)]), hb.alloc hb.size _⟩
                    case measure => simp [intOf]; omega
                · go_wp2_with fail
                  refine (within_yes _ _ _ (by omega) (by omega)).mono ?_
                  rintro e w' ⟨rfl, rfl⟩
                  go_wp2_with fail
                  refine (within_yes _ _ _ (by omega) (by omega)).mono ?_
                  rintro e w' ⟨rfl, rfl⟩
                  go_wp2_with fail
                  refine (within_yes _ _ _ (by omega) (by omega)).mono ?_
                  rintro e w' ⟨rfl, rfl⟩
                  go_wp2_with fail
                  refine (within_no _ _ _ (by omega)).mono ?_
                  rintro e w' ⟨rfl, rfl⟩
                  go_wp2
                  go_ret
                  exact ⟨ret_int (by rw [hT.out, show ckE ⟨li, cl, lo, hi⟩ = 1 by unfold ckE; rw [if_neg (by simp only; omega), if_pos (by simp only; omega)]]; rfl), hb.alloc hb.size _⟩
              · go_wp2_with fail
                refine (within_yes _ _ _ (by omega) (by omega)).mono ?_
                rintro e w' ⟨rfl, rfl⟩
                go_wp2_with fail
                refine (within_yes _ _ _ (by omega) (by omega)).mono ?_
                rintro e w' ⟨rfl, rfl⟩
                go_wp2_with fail
                refine (within_no _ _ _ (by omega)).mono ?_
                rintro e w' ⟨rfl, rfl⟩
                go_wp2
                go_ret
                exact ⟨ret_int (by rw [hT.out, show ckE ⟨li, cl, lo, hi⟩ = 1 by unfold ckE; rw [if_neg (by simp only; omega), if_pos (by simp only; omega)]]; rfl), hb.alloc hb.size _⟩
            · go_wp2_with fail
              refine (within_yes _ _ _ (by omega) (by omega)).mono ?_
              rintro e w' ⟨rfl, rfl⟩
              go_wp2_with fail
              refine (within_no _ _ _ (by omega)).mono ?_
              rintro e w' ⟨rfl, rfl⟩
              go_wp2
              go_ret
              exact ⟨ret_int (by rw [hT.out, show ckE ⟨li, cl, lo, hi⟩ = 1 by unfold ckE; rw [if_pos (by simp only; omega)]]; rfl), hb.alloc hb.size _⟩
          · go_wp2_with fail
            refine (within_no _ _ _ (by omega)).mono ?_
            rintro e w' ⟨rfl, rfl⟩
            go_wp2
            go_ret
            exact ⟨ret_int (by rw [hT.out, show ckE ⟨li, cl, lo, hi⟩ = 1 by unfold ckE; rw [if_pos (by simp only; omega)]]; rfl), hb.alloc hb.size _⟩
        · have hk' : k = l.length := by omega
          have hE' := hE.out
          rw [List.take_of_length_le (by omega)] at hE'
          have H := Lib.hid hE'
          clear hE' hE
          go_wp2
          go_ret
          exact ⟨ret_int H.out.symm, hb⟩
    · have e0 : chk l d = 1 := by unfold chk; rw [if_neg h16, if_pos hd]
      rw [e0]
      clear e0
      go_enter Try.func56, Try.ntmps56
      go_wp2_with fail
      refine (within_no _ _ _ hd).mono ?_
      rintro e w' ⟨rfl, rfl⟩
      go_wp2
      go_ret
      exact ⟨rfl, Below.refl _ _⟩
theorem wrg_bd (p d : Int) (h1 : -1099511627776 ≤ p) (h2 : p ≤ 1099511627776) (h3 : 0 ≤ d) (h4 : d ≤ 100000) : 0 ≤ wrg p d ∧ wrg p d ≤ 1099511627776 := by
  unfold wrg
  have a0 : 0 ≤ max p (-p) := by omega
  have a1 : max p (-p) ≤ 1099511627776 := by omega
  have m0 : 0 ≤ max p (-p) * d := Int.mul_nonneg a0 h3
  have m1 : max p (-p) * d ≤ 1099511627776 * 100000 := Int.mul_le_mul a1 h4 h3 (by omega)
  generalize max p (-p) * d = q at *
  omega
end Go.Proofs.Ytkdmdoipjhcmgaa
