/- A part of a row is a row. -/
import Derived.Test.YtkkgibnoggickaaGreatDoorBase
namespace Go.Proofs.YtkkgibnoggickaaGreatDoor
open Go.RowKit Go.Sort Dg

theorem Row.cells {w : World} {b off N V : Nat} (h : Row w b off N V) {c : Array Value} {e : TypeId} {fr : Nat × Nat} (hb : w.heap[b]? = some (.cells c e fr)) {j : Nat} (hj : j < N) :
    c[off + j]? = some (u64 (dig V j)) := by
  have h1 := (h j (by simpa using hj)).1
  rw [digs_get hj] at h1
  simpa [World.cell?, hb] using h1

/-- n places from the place i on. -/
theorem Row.part {w : World} {b off N V i n : Nat} (h : Row w b off N V) (hin : i + n ≤ N) : Row w b (off + i) n (V / B ^ i) := by
  intro j hj
  have hj' : j < n := by simpa using hj
  have h1 := h (i + j) (by simp; omega)
  rw [digs_get (by omega)] at h1
  rw [digs_get hj', dig_shift, Nat.add_assoc]
  exact h1

/-- V with other digits in n places from the place i on. -/
def patch (V i n u : Nat) : Nat := V % B ^ i + u * B ^ i + V / B ^ (i + n) * B ^ (i + n)

theorem dig_patch {V i n u j : Nat} (hu : u < B ^ n) : dig (patch V i n u) j = if i ≤ j ∧ j < i + n then dig u (j - i) else dig V j := by
  have hl : V % B ^ i + u * B ^ i < B ^ (i + n) := by
    have h1 := Nat.mod_lt V (B_pow_pos i)
    have h2 : u * B ^ i + B ^ i ≤ B ^ (i + n) := by
      rw [← Nat.succ_mul, Nat.pow_add, Nat.mul_comm (B ^ i)]; exact Nat.mul_le_mul_right _ hu
    omega
  unfold patch
  by_cases h1 : j < i + n
  · rw [dig_add_low hl h1]
    by_cases h2 : j < i
    · rw [dig_add_low (Nat.mod_lt _ (B_pow_pos i)) h2, if_neg (by omega), dig_of_mod h2]
    · rw [if_pos (by omega)]
      have := dig_add_high (l := V % B ^ i) (h := u) (n := i) (j := j - i) (Nat.mod_lt _ (B_pow_pos i))
      rwa [show i + (j - i) = j by omega] at this
  · rw [if_neg (by omega)]
    have := dig_add_high (l := V % B ^ i + u * B ^ i) (h := V / B ^ (i + n)) (n := i + n) (j := j - (i + n)) hl
    rw [show i + n + (j - (i + n)) = j by omega] at this
    rw [this, dig_shift, show i + n + (j - (i + n)) = j by omega]

theorem rowW_part {w : World} {b off N V i n u : Nat} (h : Row w b off N V) (hin : i + n ≤ N) (hu : u < B ^ n) :
    rowW w b (off + i) n u = rowW w b off N (patch V i n u) := by
  unfold rowW putRow
  refine mapBlock_congr _ _ _ _ fun c e fr hb => ?_
  apply Array.ext_getElem?
  intro k
  simp only [putCells, Array.getElem?_mapIdx, digs_size]
  cases hc : c[k]? with
  | none => rfl
  | some y =>
    simp only [Option.map_some]
    by_cases h1 : off ≤ k ∧ k < off + N
    · have e1 : (digs N (patch V i n u))[k - off]! = dig (patch V i n u) (k - off) := digs_get (by omega)
      rw [if_pos h1, e1, dig_patch hu]
      by_cases h2 : off + i ≤ k ∧ k < off + i + n
      · have e2 : (digs n u)[k - (off + i)]! = dig u (k - (off + i)) := digs_get (by omega)
        rw [if_pos h2, if_pos (by omega), e2, show k - (off + i) = k - off - i by omega]
      · rw [if_neg h2, if_neg (by omega)]
        have := h.cells hb (j := k - off) (by omega)
        rw [show off + (k - off) = k by omega, hc] at this
        exact this
    · rw [if_neg h1, if_neg (by omega)]

theorem patch_lt {V i n u N : Nat} (hV : V < B ^ N) (hin : i + n ≤ N) (hu : u < B ^ n) : patch V i n u < B ^ N := by
  have hl : V % B ^ i + u * B ^ i < B ^ (i + n) := by
    have h1 := Nat.mod_lt V (B_pow_pos i)
    have h2 : u * B ^ i + B ^ i ≤ B ^ (i + n) := by
      rw [← Nat.succ_mul, Nat.pow_add, Nat.mul_comm (B ^ i)]; exact Nat.mul_le_mul_right _ hu
    omega
  have h1 : V / B ^ (i + n) < B ^ (N - (i + n)) := by
    rw [Nat.div_lt_iff_lt_mul (B_pow_pos _), ← Nat.pow_add, show N - (i + n) + (i + n) = N by omega]; exact hV
  have h2 : V / B ^ (i + n) * B ^ (i + n) + B ^ (i + n) ≤ B ^ N := by
    rw [← Nat.succ_mul, show B ^ N = B ^ (N - (i + n)) * B ^ (i + n) by rw [← Nat.pow_add]; congr 1; omega]
    exact Nat.mul_le_mul_right _ h1
  unfold patch; omega

/-- The upper part alone. -/
theorem patch_top {V i n u : Nat} (h : V < B ^ (i + n)) : patch V i n u = V % B ^ i + u * B ^ i := by
  unfold patch; rw [Nat.div_eq_of_lt h, Nat.zero_mul, Nat.add_zero]

theorem rowW_drawn (w : World) (q b off n v : Nat) : rowW (w.drewN q) b off n v = (rowW w b off n v).drewN q := rfl

theorem digs_mod {n v N : Nat} (h : n ≤ N) : digs n (v % B ^ N) = digs n v := by
  apply Array.ext
  · simp
  · intro j h1 h2
    simp at h1
    simp only [digs, Array.getElem_ofFn]
    exact dig_of_mod (by omega)

/-- The lowest n places of a row. -/
theorem Row.low {w : World} {b off N V : Nat} (n : Nat) (h : Row w b off N V) (hn : n ≤ N) : Row w b off n (V % B ^ n) := by
  have := h.part (i := 0) (n := n) (by omega)
  rw [Nat.add_zero, Nat.pow_zero, Nat.div_one] at this
  unfold Row at *
  rw [digs_mod (Nat.le_refl n)]; exact this

/-- What one digit more makes of it. -/
theorem rowW_top {w : World} {b off n V u d : Nat} (h : Row w b off (n + 1) V) (hu : u < B ^ n) (hd : d < B) (hV : V < B ^ (n + 1)) :
    (rowW w b off n u).setCell ⟨b, off + n, none⟩ (u64 d) = rowW w b off (n + 1) (u + d * B ^ n) := by
  have h1 := rowW_part (i := 0) (n := n) (u := u) h (by omega) hu
  rw [Nat.add_zero] at h1
  rw [h1, rowW_set (by omega) hd]
  congr 1
  rw [put_split]
  unfold patch
  rw [Nat.zero_add, Nat.pow_zero, Nat.mod_one, Nat.mul_one, Nat.zero_add, Nat.add_mul_mod_self_right, Nat.mod_eq_of_lt hu]
  have h2 : (u + V / B ^ n * B ^ n) / B ^ (n + 1) = 0 := by
    apply Nat.div_eq_of_lt
    have h3 : V / B ^ n < B := by rw [Nat.div_lt_iff_lt_mul (B_pow_pos n), ← Nat.pow_succ']; exact hV
    have h4 := Nat.mul_le_mul_right (B ^ n) (show V / B ^ n + 1 ≤ B from h3)
    rw [Nat.add_mul, Nat.one_mul, ← Nat.pow_succ', Nat.succ_eq_add_one] at h4
    omega
  rw [h2, Nat.zero_mul, Nat.add_zero]

end Go.Proofs.YtkkgibnoggickaaGreatDoor
