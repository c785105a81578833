/- (limbs).gainTimes and (limbs).loseTimes: a multiple is added or taken in place. -/
import Derived.Test.YtkkgibnoggickaaGreatDoorBase
namespace Go.Proofs.YtkkgibnoggickaaGreatDoor
open Go.RowKit Go.Sort Dg

theorem gainTimes_any (b off n cap X : Nat) (ay : Option Addr) (capy Y f : Nat) (w : World) (hr : Row w b off n X) (hX : X < B ^ n) (hn : n ≤ 1099511627776)
    (hy : DigsAt w ay n capy Y) (hsep : ∀ a, ay = some a → n ≠ 0 → a.block ≠ b) (hf : f < B) :
    Calls Tryz.prog 157 #[.slice (some ⟨b, off, none⟩) n cap, .slice ay n capy, u64 f] w fun e w' =>
      ∃ c X', e = .returned (u64 c) ∧ c < B ∧ X' < B ^ n ∧ X' + c * B ^ n = X + Y * f ∧ rowW w b off n X' = w' := by
  go_enter Tryz.func157, Tryz.ntmps157
  go_wp2
  go_loopw [7, 15] (fun c i wr => ∃ k cn X' : Nat, k ≤ n ∧ i = .int .i64 k ∧ c = u64 cn ∧ cn < B ∧ X' < B ^ n ∧ Hid (X' + cn * B ^ k = X + Y % B ^ k * f) ∧ wr = rowW w b off n X') (fun _ i _ => n - (intOf i).toNat)
  case atStart => exact ⟨0, 0, X, Nat.zero_le _, rfl, rfl, B_pos, hX, by simp [Hid, Nat.mod_one], hr.self.symm⟩
  case round =>
    obtain ⟨k, cn, X', hk, rfl, rfl, hc1, hX', hval, rfl⟩ := hrel
    by_cases hlt : k < n
    · obtain ⟨by_, offy, rfl, hby, hcy⟩ := hy.cells (by omega)
      have hb : by_ ≠ b := hsep _ rfl (by omega)
      have h1 : (rowW w b off n X').cell? ⟨by_, offy + k, none⟩ = some (u64 (dig Y k)) := (rowW_other (.inl hb)).trans (hcy k hlt)
      have h2 : (rowW w b off n X').cell? ⟨b, off + k, none⟩ = some (u64 (dig X' k)) := hr.cell (by omega)
      have h3 : (rowW w b off n X').frozen? ⟨b, off + k, none⟩ = false := hr.free (by omega)
      obtain ⟨hi, ehi⟩ : ∃ z, dig Y k * f / B = z := ⟨_, rfl⟩
      obtain ⟨lo, elo⟩ : ∃ z, dig Y k * f % B = z := ⟨_, rfl⟩
      obtain ⟨l1, el1⟩ : ∃ z, (lo + cn) % B = z := ⟨_, rfl⟩
      obtain ⟨c1, ec1⟩ : ∃ z, (lo + cn) / B = z := ⟨_, rfl⟩
      obtain ⟨x2, ex2⟩ : ∃ z, (dig X' k + l1) % B = z := ⟨_, rfl⟩
      obtain ⟨c2, ec2⟩ : ∃ z, (dig X' k + l1) / B = z := ⟨_, rfl⟩
      obtain ⟨w1, w2, w3, w4, w5⟩ := addmul_words (dig_lt X' k) (dig_lt Y k) hf hc1 ehi elo el1 ec1 ex2 ec2
      have hadd1 := fun w => add64_n lo cn w
      have hadd2 := fun w => add64_n (dig X' k) l1 w
      have hmul := fun w => mul64 (dig Y k) f (dig_lt _ _) hf w
      rw [el1, ec1] at hadd1
      rw [ex2, ec2] at hadd2
      rw [ehi, elo] at hmul
      have HM := Lib.hid hmul
      have W1 := Lib.hid w1
      have W2 := Lib.hid w2
      clear hcy hmul ehi elo el1 ec1 ex2 ec2 w1 w2
      go_wp2_with (first | (go_at_call 211; refine (HM.out _).mono ?_; rintro e w' ⟨rfl, rfl⟩))
      go_roundw
      case rel =>
        refine ⟨k + 1, hi + c1 + c2, put X' k x2, by omega, by go_num, by go_num, ?_, ?_, ?_, ?_⟩
        · rw [W2.out]; exact addmul_carry (dig_lt _ _) (dig_lt _ _) hf hc1
        · exact put_lt hX' hlt (by rw [W1.out]; exact Nat.mod_lt _ B_pos)
        · rw [W1.out, W2.out]; exact addmul_step hval.out
        · exact rowW_set hlt (by rw [W1.out]; exact Nat.mod_lt _ B_pos)
      case measure => simp [intOf]; omega
    · obtain rfl : k = n := by omega
      have hval' : X' + cn * B ^ k = X + Y * f := by have := hval.out; rwa [Nat.mod_eq_of_lt hy.lt] at this
      have HV := Lib.hid hval'
      clear hval hval'
      go_wp2
      go_ret
      exact ⟨cn, X', rfl, hc1, hX', HV.out, rfl⟩

theorem loseTimes_any (b off n cap X : Nat) (ay : Option Addr) (capy Y f : Nat) (w : World) (hr : Row w b off n X) (hX : X < B ^ n) (hn : n ≤ 1099511627776)
    (hy : DigsAt w ay n capy Y) (hsep : ∀ a, ay = some a → n ≠ 0 → a.block ≠ b) (hf : f < B) :
    Calls Tryz.prog 220 #[.slice (some ⟨b, off, none⟩) n cap, .slice ay n capy, u64 f] w fun e w' =>
      ∃ c X', e = .returned (u64 c) ∧ c < B ∧ X' < B ^ n ∧ X' + Y * f = X + c * B ^ n ∧ rowW w b off n X' = w' := by
  go_enter Tryz.func220, Tryz.ntmps220
  go_wp2
  go_loopw [7, 15] (fun c i wr => ∃ k cn X' : Nat, k ≤ n ∧ i = .int .i64 k ∧ c = u64 cn ∧ cn < B ∧ X' < B ^ n ∧ Hid (X' + Y % B ^ k * f = X + cn * B ^ k) ∧ wr = rowW w b off n X') (fun _ i _ => n - (intOf i).toNat)
  case atStart => exact ⟨0, 0, X, Nat.zero_le _, rfl, rfl, B_pos, hX, by simp [Hid, Nat.mod_one], hr.self.symm⟩
  case round =>
    obtain ⟨k, cn, X', hk, rfl, rfl, hc1, hX', hval, rfl⟩ := hrel
    by_cases hlt : k < n
    · obtain ⟨by_, offy, rfl, hby, hcy⟩ := hy.cells (by omega)
      have hb : by_ ≠ b := hsep _ rfl (by omega)
      have h1 : (rowW w b off n X').cell? ⟨by_, offy + k, none⟩ = some (u64 (dig Y k)) := (rowW_other (.inl hb)).trans (hcy k hlt)
      have h2 : (rowW w b off n X').cell? ⟨b, off + k, none⟩ = some (u64 (dig X' k)) := hr.cell (by omega)
      have h3 : (rowW w b off n X').frozen? ⟨b, off + k, none⟩ = false := hr.free (by omega)
      obtain ⟨hi, ehi⟩ : ∃ z, dig Y k * f / B = z := ⟨_, rfl⟩
      obtain ⟨lo, elo⟩ : ∃ z, dig Y k * f % B = z := ⟨_, rfl⟩
      obtain ⟨l1, el1⟩ : ∃ z, (lo + cn) % B = z := ⟨_, rfl⟩
      obtain ⟨c1, ec1⟩ : ∃ z, (lo + cn) / B = z := ⟨_, rfl⟩
      have hl1 : l1 < B := by rw [← el1]; exact Nat.mod_lt _ B_pos
      have hx2 := sb_lt (dig X' k) l1
      have ex := sb_ow (x := dig X' k) (z := l1) (dig_lt _ _) (Nat.le_of_lt hl1)
      have hc2 := ow_le (dig X' k) l1
      have hadd2 := fun w => sub64_n (dig X' k) l1 hl1 w
      generalize sb (dig X' k) l1 = x2 at *
      generalize ow (dig X' k) l1 = c2 at *
      obtain ⟨w1, w3, w4⟩ := submul_words (dig_lt Y k) hf hc1 ehi elo el1 ec1 ex hx2
      have hadd1 := fun w => add64_n lo cn w
      have hmul := fun w => mul64 (dig Y k) f (dig_lt _ _) hf w
      rw [el1, ec1] at hadd1
      rw [ehi, elo] at hmul
      have HM := Lib.hid hmul
      have W1 := Lib.hid w1
      clear hcy hmul ehi elo el1 ec1 ex w1
      go_wp2_with (first | (go_at_call 211; refine (HM.out _).mono ?_; rintro e w' ⟨rfl, rfl⟩))
      go_roundw
      case rel =>
        refine ⟨k + 1, hi + c1 + c2, put X' k x2, by omega, by go_num, by go_num, ?_, ?_, ?_, ?_⟩
        · unfold B; omega
        · exact put_lt hX' hlt hx2
        · exact submul_step hval.out W1.out
        · exact rowW_set hlt hx2
      case measure => simp [intOf]; omega
    · obtain rfl : k = n := by omega
      have hval' : X' + Y * f = X + cn * B ^ k := by have := hval.out; rwa [Nat.mod_eq_of_lt hy.lt] at this
      have HV := Lib.hid hval'
      clear hval hval'
      go_wp2
      go_ret
      exact ⟨cn, X', rfl, hc1, hX', HV.out, rfl⟩

end Go.Proofs.YtkkgibnoggickaaGreatDoor
