/- A part of a row is a row. (limbs).gainTimes and (limbs).loseTimes: a multiple is added or taken in place. -/
import Derived.Test.YtlncagdekfjinaaGreatDoorBase
namespace Go.Proofs.YtlncagdekfjinaaGreatDoor
open Go.RowKit Go.Sort Dg
theorem Row.cells {w : World} {b off N V : Nat} (h : Row w b off N V) {c : Array Value} {e : TypeId} {fr : Nat × Nat} (hb : w.heap[b]? = some (.cells c e fr)) {j : Nat} (hj : j < N) :
    c[off + j]? = some (u64 (dig V j)) := by
  have h1 := (h j (by simpa using hj)).1
  rw [digs_get hj] at h1
  simpa [World.cell?, hb] using h1
theorem Row.part {w : World} {b off N V i n : Nat} (h : Row w b off N V) (hin : i + n ≤ N) : Row w b (off + i) n (V / B ^ i) := by
  intro j hj
  have hj' : j < n := by simpa using hj
  have h1 := h (i + j) (by simp; omega)
  rw [digs_get (by omega)] at h1
  rw [digs_get hj', dig_shift, Nat.add_assoc]
  exact h1
def patch (V i n u : Nat) : Nat := V % B ^ i + u * B ^ i + V / B ^ (i + n) * B ^ (i + n)
theorem dig_patch {V i n u j : Nat} (hu : u < B ^ n) : dig (patch V i n u) j = if i ≤ j ∧ j < i + n then dig u (j - i) else dig V j := by
  have hl : V % B ^ i + u * B ^ i < B ^ (i + n) := by
    have h1 := Nat.mod_lt V (B_pow_pos i)
    have h2 : u * B ^ i + B ^ i ≤ B ^ (i + n) := by
      rw [← Nat.succ_mul, Nat.pow_add, Nat.mul_comm (B ^ i)]; exact Nat.mul_le_mul_right _ hu
    omega
  unfold patch
  by_cases h1 : j < i + n
  · rw [dig_add_low hl h1]
    by_cases h2 : j < i
    · rw [dig_add_low (Nat.mod_lt _ (B_pow_pos i)) h2, if_neg (by omega), dig_of_mod h2]
    · rw [if_pos (by omega)]
      have := dig_add_high (l := V % B ^ i) (h := u) (n := i) (j := j - i) (Nat.mod_lt _ (B_pow_pos i))
      rwa [show i + (j - i) = j by omega] at this
  · rw [if_neg (by omega)]
    have := dig_add_high (l := V % B ^ i + u * B ^ i) (h := V / B ^ (i + n)) (n := i + n) (j := j - (i + n)) hl
    rw [show i + n + (j - (i + n)) = j by omega] at this
    rw [this, dig_shift, show i + n + (j - (i + n)) = j by omega]
theorem rowW_part {w : World} {b off N V i n u : Nat} (h : Row w b off N V) (hin : i + n ≤ N) (hu : u < B ^ n) :
    rowW w b (off + i) n u = rowW w b off N (patch V i n u) := by
  unfold rowW putRow
  refine mapBlock_congr _ _ _ _ fun c e fr hb => ?_
  apply Array.ext_getElem?
  intro k
  simp only [putCells, Array.getElem?_mapIdx, digs_size]
  cases hc : c[k]? with
  | none => rfl
  | some y =>
    simp only [Option.map_some]
    by_cases h1 : off ≤ k ∧ k < off + N
    · have e1 : (digs N (patch V i n u))[k - off]! = dig (patch V i n u) (k - off) := digs_get (by omega)
      rw [if_pos h1, e1, dig_patch hu]
      by_cases h2 : off + i ≤ k ∧ k < off + i + n
      · have e2 : (digs n u)[k - (off + i)]! = dig u (k - (off + i)) := digs_get (by omega)
        rw [if_pos h2, if_pos (by omega), e2, show k - (off + i) = k - off - i by omega]
      · rw [if_neg h2, if_neg (by omega)]
        have := h.cells hb (j := k - off) (by omega)
        rw [show off + (k - off) = k by omega, hc] at this
        exact this
    · rw [if_neg h1, if_neg (by omega)]
theorem patch_lt {V i n u N : Nat} (hV : V < B ^ N) (hin : i + n ≤ N) (hu : u < B ^ n) : patch V i n u < B ^ N := by
  have hl : V % B ^ i + u * B ^ i < B ^ (i + n) := by
    have h1 := Nat.mod_lt V (B_pow_pos i)
    have h2 : u * B ^ i + B ^ i ≤ B ^ (i + n) := by
      rw [← Nat.succ_mul, Nat.pow_add, Nat.mul_comm (B ^ i)]; exact Nat.mul_le_mul_right _ hu
    omega
  have h1 : V / B ^ (i + n) < B ^ (N - (i + n)) := by
    rw [Nat.div_lt_iff_lt_mul (B_pow_pos _), ← Nat.pow_add, show N - (i + n) + (i + n) = N by omega]; exact hV
  have h2 : V / B ^ (i + n) * B ^ (i + n) + B ^ (i + n) ≤ B ^ N := by
    rw [← Nat.succ_mul, show B ^ N = B ^ (N - (i + n)) * B ^ (i + n) by rw [← Nat.pow_add]; congr 1; omega]
    exact Nat.mul_le_mul_right _ h1
  unfold patch; omega
theorem patch_top {V i n u : Nat} (h : V < B ^ (i + n)) : patch V i n u = V % B ^ i + u * B ^ i := by
  unfold patch; rw [Nat.div_eq_of_lt h, Nat.zero_mul, Nat.add_zero]
theorem digs_mod {n v N : Nat} (h : n ≤ N) : digs n (v % B ^ N) = digs n v := by
  apply Array.ext
  · simp
  · intro j h1 h2
    simp at h1
    simp only [digs, Array.getElem_ofFn]
    exact dig_of_mod (by omega)
theorem Row.low {w : World} {b off N V : Nat} (n : Nat) (h : Row w b off N V) (hn : n ≤ N) : Row w b off n (V % B ^ n) := by
  have := h.part (i := 0) (n := n) (by omega)
  rw [Nat.add_zero, Nat.pow_zero, Nat.div_one] at this
  unfold Row at *
  rw [digs_mod (Nat.le_refl n)]; exact this
theorem rowW_top {w : World} {b off n V u d : Nat} (h : Row w b off (n + 1) V) (hu : u < B ^ n) (hd : d < B) (hV : V < B ^ (n + 1)) :
    (rowW w b off n u).setCell ⟨b, off + n, none⟩ (u64 d) = rowW w b off (n + 1) (u + d * B ^ n) := by
  have h1 := rowW_part (i := 0) (n := n) (u := u) h (by omega) hu
  rw [Nat.add_zero] at h1
  rw [h1, rowW_set (by omega) hd]
  congr 1
  rw [put_split]
  unfold patch
  rw [Nat.zero_add, Nat.pow_zero, Nat.mod_one, Nat.mul_one, Nat.zero_add, Nat.add_mul_mod_self_right, Nat.mod_eq_of_lt hu]
  have h2 : (u + V / B ^ n * B ^ n) / B ^ (n + 1) = 0 := by
    apply Nat.div_eq_of_lt
    have h3 : V / B ^ n < B := by rw [Nat.div_lt_iff_lt_mul (B_pow_pos n), ← Nat.pow_succ']; exact hV
    have h4 := Nat.mul_le_mul_right (B ^ n) (show V / B ^ n + 1 ≤ B from h3)
    rw [Nat.add_mul, Nat.one_mul, ← Nat.pow_succ', Nat.succ_eq_add_one] at h4
    omega
  rw [h2, Nat.zero_mul, Nat.add_zero]
end Go.Proofs.YtlncagdekfjinaaGreatDoor
namespace Go.Proofs.YtlncagdekfjinaaGreatDoor
open Go.RowKit Go.Sort Dg
theorem gainTimes_any (b off n cap X : Nat) (ay : Option Addr) (capy Y f : Nat) (w : World) (hr : Row w b off n X) (hX : X < B ^ n) (hn : n ≤ 1099511627776)
    (hy : DigsAt w ay n capy Y) (hsep : ∀ a, ay = some a → n ≠ 0 → a.block ≠ b) (hf : f < B) :
    Calls Tryz.prog 174 #[.slice (some ⟨b, off, none⟩) n cap, .slice ay n capy, u64 f] w fun e w' =>
      ∃ c X', e = .returned (u64 c) ∧ c < B ∧ X' < B ^ n ∧ X' + c * B ^ n = X + Y * f ∧ rowW w b off n X' = w' := by
  go_enter Tryz.func174, Tryz.ntmps174
  go_wp2
  go_loopw [7, 15] (fun c i wr => ∃ k cn X' : Nat, k ≤ n ∧ i = .int .i64 k ∧ c = u64 cn ∧ cn < B ∧ X' < B ^ n ∧ Hid (X' + cn * B ^ k = X + Y % B ^ k * f) ∧ wr = rowW w b off n X') (fun _ i _ => n - (intOf i).toNat)
  case atStart => exact ⟨0, 0, X, Nat.zero_le _, rfl, rfl, B_pos, hX, by simp [Hid, Nat.mod_one], hr.self.symm⟩
  case round =>
    obtain ⟨k, cn, X', hk, rfl, rfl, hc1, hX', hval, rfl⟩ := hrel
    by_cases hlt : k < n
    · obtain ⟨by_, offy, rfl, hby, hcy⟩ := hy.cells (by omega)
      have hb : by_ ≠ b := hsep _ rfl (by omega)
      have h1 : (rowW w b off n X').cell? ⟨by_, offy + k, none⟩ = some (u64 (dig Y k)) := (rowW_other (.inl hb)).trans (hcy k hlt)
      have h2 : (rowW w b off n X').cell? ⟨b, off + k, none⟩ = some (u64 (dig X' k)) := hr.cell (by omega)
      have h3 : (rowW w b off n X').frozen? ⟨b, off + k, none⟩ = false := hr.free (by omega)
      obtain ⟨hi, ehi⟩ : ∃ z, dig Y k * f / B = z := ⟨_, rfl⟩
      obtain ⟨lo, elo⟩ : ∃ z, dig Y k * f % B = z := ⟨_, rfl⟩
      obtain ⟨l1, el1⟩ : ∃ z, (lo + cn) % B = z := ⟨_, rfl⟩
      obtain ⟨c1, ec1⟩ : ∃ z, (lo + cn) / B = z := ⟨_, rfl⟩
      obtain ⟨x2, ex2⟩ : ∃ z, (dig X' k + l1) % B = z := ⟨_, rfl⟩
      obtain ⟨c2, ec2⟩ : ∃ z, (dig X' k + l1) / B = z := ⟨_, rfl⟩
      obtain ⟨w1, w2, w3, w4, w5⟩ := addmul_words (dig_lt X' k) (dig_lt Y k) hf hc1 ehi elo el1 ec1 ex2 ec2
      have hadd1 := fun w => add64_n lo cn w
      have hadd2 := fun w => add64_n (dig X' k) l1 w
      have hmul := fun w => mul64 (dig Y k) f (dig_lt _ _) hf w
      rw [el1, ec1] at hadd1
      rw [ex2, ec2] at hadd2
      rw [ehi, elo] at hmul
      have HM := Lib.hid hmul
      have W1 := Lib.hid w1
      have W2 := Lib.hid w2
      clear hcy hmul ehi elo el1 ec1 ex2 ec2 w1 w2
      go_wp2_with (first | (go_at_call 191; refine (HM.out _).mono ?_; rintro e w' ⟨rfl, rfl⟩))
      go_roundw
      case rel =>
        refine ⟨k + 1, hi + c1 + c2, put X' k x2, by omega, by go_num, by go_num, ?_, ?_, ?_, ?_⟩
        · rw [W2.out]; exact addmul_carry (dig_lt _ _) (dig_lt _ _) hf hc1
        · exact put_lt hX' hlt (by rw [W1.out]; exact Nat.mod_lt _ B_pos)
        · rw [W1.out, W2.out]; exact addmul_step hval.out
        · exact rowW_set hlt (by rw [W1.out]; exact Nat.mod_lt _ B_pos)
      case measure => simp [intOf]; omega
    · obtain rfl : k = n := by omega
      have hval' : X' + cn * B ^ k = X + Y * f := by have := hval.out; rwa [Nat.mod_eq_of_lt hy.lt] at this
      have HV := Lib.hid hval'
      clear hval hval'
      go_wp2
      go_ret
      exact ⟨cn, X', rfl, hc1, hX', HV.out, rfl⟩
theorem loseTimes_any (b off n cap X : Nat) (ay : Option Addr) (capy Y f : Nat) (w : World) (hr : Row w b off n X) (hX : X < B ^ n) (hn : n ≤ 1099511627776)
    (hy : DigsAt w ay n capy Y) (hsep : ∀ a, ay = some a → n ≠ 0 → a.block ≠ b) (hf : f < B) :
    Calls Tryz.prog 211 #[.slice (some ⟨b, off, none⟩) n cap, .slice ay n capy, u64 f] w fun e w' =>
      ∃ c X', e = .returned (u64 c) ∧ c < B ∧ X' < B ^ n ∧ X' + Y * f = X + c * B ^ n ∧ rowW w b off n X' = w' := by
  go_enter Tryz.func211, Tryz.ntmps211
  go_wp2
  go_loopw [7, 15] (fun c i wr => ∃ k cn X' : Nat, k ≤ n ∧ i = .int .i64 k ∧ c = u64 cn ∧ cn < B ∧ X' < B ^ n ∧ Hid (X' + Y % B ^ k * f = X + cn * B ^ k) ∧ wr = rowW w b off n X') (fun _ i _ => n - (intOf i).toNat)
  case atStart => exact ⟨0, 0, X, Nat.zero_le _, rfl, rfl, B_pos, hX, by simp [Hid, Nat.mod_one], hr.self.symm⟩
  case round =>
    obtain ⟨k, cn, X', hk, rfl, rfl, hc1, hX', hval, rfl⟩ := hrel
    by_cases hlt : k < n
    · obtain ⟨by_, offy, rfl, hby, hcy⟩ := hy.cells (by omega)
      have hb : by_ ≠ b := hsep _ rfl (by omega)
      have h1 : (rowW w b off n X').cell? ⟨by_, offy + k, none⟩ = some (u64 (dig Y k)) := (rowW_other (.inl hb)).trans (hcy k hlt)
      have h2 : (rowW w b off n X').cell? ⟨b, off + k, none⟩ = some (u64 (dig X' k)) := hr.cell (by omega)
      have h3 : (rowW w b off n X').frozen? ⟨b, off + k, none⟩ = false := hr.free (by omega)
      obtain ⟨hi, ehi⟩ : ∃ z, dig Y k * f / B = z := ⟨_, rfl⟩
      obtain ⟨lo, elo⟩ : ∃ z, dig Y k * f % B = z := ⟨_, rfl⟩
      obtain ⟨l1, el1⟩ : ∃ z, (lo + cn) % B = z := ⟨_, rfl⟩
      obtain ⟨c1, ec1⟩ : ∃ z, (lo + cn) / B = z := ⟨_, rfl⟩
      have hl1 : l1 < B := by rw [← el1]; exact Nat.mod_lt _ B_pos
      have hx2 := sb_lt (dig X' k) l1
      have ex := sb_ow (x := dig X' k) (z := l1) (dig_lt _ _) (Nat.le_of_lt hl1)
      have hc2 := ow_le (dig X' k) l1
      have hadd2 := fun w => sub64_n (dig X' k) l1 hl1 w
      generalize sb (dig X' k) l1 = x2 at *
      generalize ow (dig X' k) l1 = c2 at *
      obtain ⟨w1, w3, w4⟩ := submul_words (dig_lt Y k) hf hc1 ehi elo el1 ec1 ex hx2
      have hadd1 := fun w => add64_n lo cn w
      have hmul := fun w => mul64 (dig Y k) f (dig_lt _ _) hf w
      rw [el1, ec1] at hadd1
      rw [ehi, elo] at hmul
      have HM := Lib.hid hmul
      have W1 := Lib.hid w1
      clear hcy hmul ehi elo el1 ec1 ex w1
      go_wp2_with (first | (go_at_call 191; refine (HM.out _).mono ?_; rintro e w' ⟨rfl, rfl⟩))
      go_roundw
      case rel =>
        refine ⟨k + 1, hi + c1 + c2, put X' k x2, by omega, by go_num, by go_num, ?_, ?_, ?_, ?_⟩
        · unfold B; omega
        · exact put_lt hX' hlt hx2
        · exact submul_step hval.out W1.out
        · exact rowW_set hlt hx2
      case measure => simp [intOf]; omega
    · obtain rfl : k = n := by omega
      have hval' : X' + Y * f = X + cn * B ^ k := by have := hval.out; rwa [Nat.mod_eq_of_lt hy.lt] at this
      have HV := Lib.hid hval'
      clear hval hval'
      go_wp2
      go_ret
      exact ⟨cn, X', rfl, hc1, hX', HV.out, rfl⟩
end Go.Proofs.YtlncagdekfjinaaGreatDoor
