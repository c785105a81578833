/- slices.Clone at limbs: a new row with the same digits. -/
import Derived.Test.YtlncagdekfjinaaGreatDoorLow
import Derived.Test.YtlncagdekfjinaaGreatDoorRoom
import Derived.Laws.AppendOwn
namespace Go.Proofs.YtlncagdekfjinaaGreatDoor
open Go.RowKit Go.Sort Dg
def vals (m Y : Nat) : List Value := (List.range m).map fun i => u64 (dig Y i)
theorem vals_length (m Y : Nat) : (vals m Y).length = m := by simp [vals]
theorem vals_get {m Y j : Nat} {u : Value} (h : (vals m Y)[j]? = some u) : j < m ∧ u = u64 (dig Y j) := by
  have hj : j < m := by
    rcases Nat.lt_or_ge j m with h1 | h1
    · exact h1
    · rw [List.getElem?_eq_none (by rw [vals_length]; exact h1)] at h; cases h
  refine ⟨hj, ?_⟩
  simp [vals, hj] at h
  exact h.symm
theorem own_row {w : World} {base m Y : Nat} {v : Value} (h : w.ownsRow base 167 1 v m (vals m Y)) (hm : m ≠ 0) :
    ∃ g cap, v = .slice (some ⟨g, 0, none⟩) m cap ∧ base ≤ g ∧ g < w.heap.size ∧ m ≤ cap ∧ Row w g 0 m Y ∧ Room w base (some ⟨g, 0, none⟩) cap := by
  obtain ⟨_, h2 | ⟨g, cap, cur, rfl, hb, hg, hmc, hml, hs, ht⟩⟩ := h
  · exact absurd h2.2 hm
  · refine ⟨g, cap, rfl, hb, (Array.getElem?_eq_some_iff.1 hg).1, hmc, ?_, .inr ⟨g, cur, rfl, hb, hg, by omega, hml⟩⟩
    intro j hj
    have hj' : j < m := by simpa using hj
    rw [digs_get hj', Nat.zero_add]
    constructor
    · rw [cell_of_row w g j cur 167 (0, 0) hg]
      have h3 : (vals m Y)[j]? = some (u64 (dig Y j)) := by simp [vals, hj']
      rw [← ht, List.getElem?_take] at h3
      rw [if_pos (by omega)] at h3
      simpa using h3
    · simp [World.frozen?, hg]
def Cloned (a0 : Option Addr) (w : World) (m Y : Nat) (e : Ending) (w' : World) : Prop :=
  ∃ a cap, e = .returned (.slice a m cap) ∧ DigsAt w' a m cap Y ∧ Below w.heap.size w w' ∧ (m ≠ 0 → ∃ g, a = some ⟨g, 0, none⟩ ∧ w.heap.size ≤ g ∧ g < w'.heap.size ∧ Row w' g 0 m Y) ∧ Room w' w.heap.size a cap ∧ (a0 = none → a = none)
theorem clone_any (a : Option Addr) (m cap Y : Nat) (w : World) (h : DigsAt w a m cap Y) (hm : m ≤ 1099511627776) :
    Calls Tryz.prog 171 #[.slice a m cap] w (Cloned a w m Y) := by
  have hnil := fun w (a : Option Addr) n c => Lib.run_eql_slice_nil (P := Tryz.prog) w 95 167 a n c 0 0 Tryz.underlying95
  have h0 : m = 0 → Y = 0 := by rintro rfl; have := h.lt; simp at this; exact this
  cases a with
  | none =>
    have hm0 : m = 0 := by
      rcases Nat.eq_zero_or_pos m with h1 | h1
      · exact h1
      · obtain ⟨b, off, e, _⟩ := h.cells (by omega); cases e
    subst hm0
    obtain rfl := h0 rfl
    clear h0 h
    go_enter Tryz.func171, Tryz.ntmps171
    go_wp2
    go_ret
    exact ⟨none, 0, rfl, DigsAt.zero _ _ _, Below.refl _ _, fun h => absurd rfl h, Room.nil _ _, fun _ => rfl⟩
  | some ad =>
    obtain ⟨i0, hi, hz0, hz1, hz2⟩ := info_parts info_u64
    have hnew := World.ownsRow_made (base := w.heap.size) (e := 167) (size := 1) w #[] 0 (Nat.le_refl _) (by decide) (by simp)
    have hcl : ∀ j u, (vals m Y)[j]? = some u → (w.alloc (.cells #[] 167)).cell? (ad.add j) = some u := by
      intro j u hj
      obtain ⟨hj', rfl⟩ := vals_get hj
      obtain ⟨b, off, had, hb, hc⟩ := h.cells (by omega)
      obtain rfl := Option.some.inj had
      have e : (⟨b, off, none⟩ : Addr).add j = ⟨b, off + j, none⟩ := by unfold Addr.add; split <;> simp_all
      rw [e]
      exact (((Below.refl w.heap.size w).alloc (Nat.le_refl _) _).cell (by exact hb)).trans (hc j hj')
    have hY := h.lt
    have hone : ∀ u ∈ vals m Y, u.oneCell' = true := by intro u hu; obtain ⟨j, hj⟩ := List.getElem?_of_mem hu; obtain ⟨_, rfl⟩ := vals_get hj; rfl
    have hlen : (vals m Y).length = m * 1 := by rw [vals_length, Nat.mul_one]
    have HCL := Lib.hid hcl
    have HON := Lib.hid hone
    have HLEN := Lib.hid hlen
    have HNEW := Lib.hid hnew
    have HI := Lib.hid hi
    have HZ0 := Lib.hid hz0
    have HZ1 := Lib.hid hz1
    have HZ2 := Lib.hid hz2
    have HY := Lib.hid hY
    have H0 := Lib.hid h0
    clear hcl hnew hi hz0 hz1 hz2 hone hlen h h0 hY
    go_enter Tryz.func171, Tryz.ntmps171
    go_wp2_with (at_builtin; refine wpList_append_own _ rfl _ _ 95 rfl w.heap.size 167 i0 (.int .u64 0) 1 8 Tryz.underlying95 HI.out HZ0.out HZ1.out HZ2.out rfl (by decide) _ _ _ rfl HNEW.out ad m cap (vals m Y) rfl HLEN.out HCL.out HON.out (by unfold maxLen; omega) (by omega) (by simp) ?_; intro v' w' hown hgrow _)
    go_ret
    rw [List.nil_append, Nat.zero_add] at hown
    have hbel : Below w.heap.size w w' := ((Below.refl w.heap.size w).alloc (Nat.le_refl _) _).grown hgrow (by simp) (by rintro k ⟨rfl⟩; exact Nat.le_refl _)
    by_cases hm0 : m = 0
    · subst hm0
      obtain rfl := H0.out rfl
      obtain ⟨_, h2 | ⟨g, cap', cur, rfl, hgb, hgg, _, hml, hs, _⟩⟩ := hown
      · obtain ⟨rfl, _⟩ := h2
        exact ⟨none, 0, rfl, DigsAt.zero _ _ _, hbel, fun h => absurd rfl h, Room.nil _ _, fun _ => rfl⟩
      · exact ⟨_, cap', rfl, DigsAt.zero _ _ _, hbel, fun h => absurd rfl h, .inr ⟨g, cur, rfl, hgb, hgg, by omega, hml⟩, fun h => nomatch h⟩
    · obtain ⟨g, cap', rfl, hg, hlt, hmc, hrow, hroom⟩ := own_row hown hm0
      exact ⟨_, cap', rfl, hrow.digs HY.out hlt hmc, hbel, fun _ => ⟨g, rfl, hg, hlt, hrow⟩, hroom, fun h => nomatch h⟩
end Go.Proofs.YtlncagdekfjinaaGreatDoor
