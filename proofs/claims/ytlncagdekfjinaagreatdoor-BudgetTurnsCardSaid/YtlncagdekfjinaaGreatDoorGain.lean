/- (limbs).gain and (limbs).lose: sums and differences in place. -/
import Derived.Test.YtlncagdekfjinaaGreatDoorBase
namespace Go.Proofs.YtlncagdekfjinaaGreatDoor
open Go.RowKit Go.Sort Dg
theorem gain_any (b off n cap X : Nat) (ay : Option Addr) (m capy Y : Nat) (w : World) (hr : Row w b off n X) (hX : X < B ^ n) (hn : n ≤ 1152921504606846976)
    (hy : DigsAt w ay m capy Y) (hsep : ∀ a, ay = some a → m ≠ 0 → a.block ≠ b) (hmn : m ≤ n) (hsum : X + Y < B ^ n) :
    Calls Tryz.prog 203 #[.slice (some ⟨b, off, none⟩) n cap, .slice ay m capy] w fun e w' =>
      e = .returned (.tuple #[]) ∧ rowW w b off n (X + Y) = w' := by
  go_enter Tryz.func203, Tryz.ntmps203
  go_wp2
  go_loopw [4, 10] (fun c i wr => ∃ k cn X' : Nat, k ≤ m ∧ i = .int .i64 k ∧ c = u64 cn ∧ cn ≤ 1 ∧ X' < B ^ n ∧ Hid (X' + cn * B ^ k = X + Y % B ^ k) ∧ wr = rowW w b off n X') (fun _ i _ => m - (intOf i).toNat)
  case atStart => exact ⟨0, 0, X, Nat.zero_le _, rfl, rfl, Nat.zero_le _, hX, by simp [Hid, Nat.mod_one], hr.self.symm⟩
  case round =>
    obtain ⟨k, cn, X', hk, rfl, rfl, hc1, hX', hval, rfl⟩ := hrel
    by_cases hlt : k < m
    · obtain ⟨by_, offy, rfl, hby, hcy⟩ := hy.cells (by omega)
      have hb : by_ ≠ b := hsep _ rfl (by omega)
      have h1 : (rowW w b off n X').cell? ⟨by_, offy + k, none⟩ = some (u64 (dig Y k)) := (rowW_other (.inl hb)).trans (hcy k hlt)
      have h2 : (rowW w b off n X').cell? ⟨b, off + k, none⟩ = some (u64 (dig X' k)) := hr.cell (by omega)
      have h3 : (rowW w b off n X').frozen? ⟨b, off + k, none⟩ = false := hr.free (by omega)
      have hadd := fun w => add64 (dig X' k) (dig Y k) cn hc1 w
      clear hcy
      go_wp2
      go_roundw
      case rel =>
        refine ⟨k + 1, (dig X' k + dig Y k + cn) / B, put X' k ((dig X' k + dig Y k + cn) % B), by omega, by go_num, ?_, ?_, ?_, ?_, ?_⟩
        · rfl
        · have := dig_le X' k; have := dig_le Y k; unfold B; omega
        · exact put_lt hX' (by omega) (Nat.mod_lt _ B_pos)
        · exact add_step hval.out
        · have h := rowW_set (w := w) (b := b) (off := off) (n := n) (v := X') (i := k) (d := (dig X' k + dig Y k + cn) % B) (by omega) (Nat.mod_lt _ B_pos)
          exact h
      case measure => simp [intOf]; omega
    · obtain rfl : k = m := by omega
      have hval' : X' + cn * B ^ k = X + Y := by have := hval.out; rwa [Nat.mod_eq_of_lt hy.lt] at this
      clear hval
      have Hv := Lib.hid hval'
      clear hval'
      go_wp2
      go_loopw [4, 7] (fun c i wr => ∃ j cn X' : Nat, k ≤ j ∧ j ≤ n ∧ i = .int .i64 j ∧ c = u64 cn ∧ cn ≤ 1 ∧ X' < B ^ n ∧ Hid (X' + cn * B ^ j = X + Y) ∧ wr = rowW w b off n X') (fun _ i _ => n - (intOf i).toNat)
      case atStart => exact ⟨k, cn, X', Nat.le_refl _, hmn, rfl, rfl, hc1, hX', Hv, rfl⟩
      case round =>
        obtain ⟨j, dn, Z, hkj, hjn, rfl, rfl, hd1, hZ, hval, rfl⟩ := hrel
        by_cases hd0 : dn = 0
        · subst hd0
          go_wp2
          go_end0
          have := hval.out
          exact ⟨rfl, by rw [← this]; simp⟩
        · have hj : j < n := by
            rcases Nat.lt_or_ge j n with h | h
            · exact h
            · have h1 := hval.out
              have h2 := Nat.pow_le_pow_right B_pos h
              rw [show dn = 1 by omega, Nat.one_mul] at h1
              omega
          have h2 : (rowW w b off n Z).cell? ⟨b, off + j, none⟩ = some (u64 (dig Z j)) := hr.cell (by omega)
          have h3 : (rowW w b off n Z).frozen? ⟨b, off + j, none⟩ = false := hr.free (by omega)
          have hadd := fun w => add64_0 (dig Z j) dn hd1 w
          have hd2 : 0 < dn := by omega
          clear hd0
          go_wp2
          go_roundw
          case rel =>
            refine ⟨j + 1, (dig Z j + dn) / B, put Z j ((dig Z j + dn) % B), by omega, by omega, by go_num, ?_, ?_, ?_, ?_, ?_⟩
            · rfl
            · have := dig_le Z j; unfold B; omega
            · exact put_lt hZ (by omega) (Nat.mod_lt _ B_pos)
            · exact add_step0 hval.out
            · have h := rowW_set (w := w) (b := b) (off := off) (n := n) (v := Z) (i := j) (d := (dig Z j + dn) % B) (by omega) (Nat.mod_lt _ B_pos)
              exact h
          case measure => simp [intOf]; omega
theorem lose_any (b off n cap X : Nat) (ay : Option Addr) (m capy Y : Nat) (w : World) (hr : Row w b off n X) (hX : X < B ^ n) (hn : n ≤ 1152921504606846976)
    (hy : DigsAt w ay m capy Y) (hsep : ∀ a, ay = some a → m ≠ 0 → a.block ≠ b) (hmn : m ≤ n) (hsub : Y ≤ X) :
    Calls Tryz.prog 204 #[.slice (some ⟨b, off, none⟩) n cap, .slice ay m capy] w fun e w' =>
      e = .returned (.tuple #[]) ∧ rowW w b off n (X - Y) = w' := by
  go_enter Tryz.func204, Tryz.ntmps204
  go_wp2
  go_loopw [4, 10] (fun c i wr => ∃ k cn X' : Nat, k ≤ m ∧ i = .int .i64 k ∧ c = u64 cn ∧ cn ≤ 1 ∧ X' < B ^ n ∧ Hid (X' + Y % B ^ k = X + cn * B ^ k) ∧ wr = rowW w b off n X') (fun _ i _ => m - (intOf i).toNat)
  case atStart => exact ⟨0, 0, X, Nat.zero_le _, rfl, rfl, Nat.zero_le _, hX, by simp [Hid, Nat.mod_one], hr.self.symm⟩
  case round =>
    obtain ⟨k, cn, X', hk, rfl, rfl, hc1, hX', hval, rfl⟩ := hrel
    by_cases hlt : k < m
    · obtain ⟨by_, offy, rfl, hby, hcy⟩ := hy.cells (by omega)
      have hb : by_ ≠ b := hsep _ rfl (by omega)
      have h1 : (rowW w b off n X').cell? ⟨by_, offy + k, none⟩ = some (u64 (dig Y k)) := (rowW_other (.inl hb)).trans (hcy k hlt)
      have h2 : (rowW w b off n X').cell? ⟨b, off + k, none⟩ = some (u64 (dig X' k)) := hr.cell (by omega)
      have h3 : (rowW w b off n X').frozen? ⟨b, off + k, none⟩ = false := hr.free (by omega)
      have hadd := fun w => sub64 (dig X' k) (dig Y k) cn (dig_lt _ _) hc1 w
      clear hcy
      go_wp2
      go_roundw
      case rel =>
        refine ⟨k + 1, ow (dig X' k) (dig Y k + cn), put X' k (sb (dig X' k) (dig Y k + cn)), by omega, by go_num, ?_, ?_, ?_, ?_, ?_⟩
        · rfl
        · exact ow_le _ _
        · exact put_lt hX' (by omega) (sb_lt _ _)
        · exact sub_step hval.out (by rw [Nat.add_assoc]; exact sb_ow (dig_lt _ _) (by have := dig_lt Y k; omega))
        · have h := rowW_set (w := w) (b := b) (off := off) (n := n) (v := X') (i := k) (d := sb (dig X' k) (dig Y k + cn)) (by omega) (sb_lt _ _)
          exact h
      case measure => simp [intOf]; omega
    · obtain rfl : k = m := by omega
      have hval' : X' + Y = X + cn * B ^ k := by have := hval.out; rwa [Nat.mod_eq_of_lt hy.lt] at this
      clear hval
      have Hv := Lib.hid hval'
      clear hval'
      go_wp2
      go_loopw [4, 7] (fun c i wr => ∃ j cn X' : Nat, k ≤ j ∧ j ≤ n ∧ i = .int .i64 j ∧ c = u64 cn ∧ cn ≤ 1 ∧ X' < B ^ n ∧ Hid (X' + Y = X + cn * B ^ j) ∧ wr = rowW w b off n X') (fun _ i _ => n - (intOf i).toNat)
      case atStart => exact ⟨k, cn, X', Nat.le_refl _, hmn, rfl, rfl, hc1, hX', Hv, rfl⟩
      case round =>
        obtain ⟨j, dn, Z, hkj, hjn, rfl, rfl, hd1, hZ, hval, rfl⟩ := hrel
        by_cases hd0 : dn = 0
        · subst hd0
          go_wp2
          go_end0
          have := hval.out
          exact ⟨rfl, by congr 1; omega⟩
        · have hj : j < n := by
            rcases Nat.lt_or_ge j n with h | h
            · exact h
            · have h1 := hval.out
              have h2 := Nat.pow_le_pow_right B_pos h
              rw [show dn = 1 by omega, Nat.one_mul] at h1
              omega
          have h2 : (rowW w b off n Z).cell? ⟨b, off + j, none⟩ = some (u64 (dig Z j)) := hr.cell (by omega)
          have h3 : (rowW w b off n Z).frozen? ⟨b, off + j, none⟩ = false := hr.free (by omega)
          have hadd := fun w => sub64_0 (dig Z j) dn hd1 w
          have hd2 : 0 < dn := by omega
          clear hd0
          go_wp2
          go_roundw
          case rel =>
            refine ⟨j + 1, ow (dig Z j) dn, put Z j (sb (dig Z j) dn), by omega, by omega, by go_num, ?_, ?_, ?_, ?_, ?_⟩
            · rfl
            · exact ow_le _ _
            · exact put_lt hZ (by omega) (sb_lt _ _)
            · exact sub_step0' hval.out (sb_ow (dig_lt _ _) (by have := B_two; omega))
            · have h := rowW_set (w := w) (b := b) (off := off) (n := n) (v := Z) (i := j) (d := sb (dig Z j) dn) (by omega) (sb_lt _ _)
              exact h
          case measure => simp [intOf]; omega
theorem lose_none (a : Option Addr) (n cap : Nat) (ay : Option Addr) (capy : Nat) (w : World) :
    Calls Tryz.prog 204 #[.slice a n cap, .slice ay 0 capy] w fun e w' => e = .returned (.tuple #[]) ∧ w = w' := by
  go_enter Tryz.func204, Tryz.ntmps204
  go_wp2
  refine wp_loop_rounds 1 ?_
  rw [rounds_succ]
  go_wp2
  refine wp_loop_rounds 1 ?_
  rw [rounds_succ]
  go_wp2
  go_end0
  exact ⟨rfl, rfl⟩
end Go.Proofs.YtlncagdekfjinaaGreatDoor
