/- slices.Grow at limbs. (The shelf_lay_g command is to be laid in plain words by shelf.sh before a claim.) -/
import Derived.Test.YtkkgibnoggickaaGreatDoorRoom
import Derived.Shelf.Spec.SlicesGrow
import Derived.Ground.Names7Prog
namespace Go.Proofs
open Go.Shelf
shelf_lay_g Lays8.n4 Nm8 4 at Tryz 219 as Tryz.growL
end Go.Proofs
namespace Go.Proofs.YtkkgibnoggickaaGreatDoor
open Go.RowKit Go.Sort Dg

theorem grow_any (base : Nat) (a : Option Addr) (cap n : Nat) (w : World) (h : Room w base a cap) (hn : n ≤ 68719476736) (hbase : base ≤ w.heap.size) :
    Calls Tryz.prog 219 #[.slice a 0 cap, .int .i64 n] w fun e w' =>
      ∃ a' cap', e = .returned (.slice a' 0 cap') ∧ n ≤ cap' ∧ Room w' base a' cap' ∧ ((a' = a ∧ w' = w) ∨ (a' = some ⟨w.heap.size, 0, none⟩ ∧ Below w.heap.size w w' ∧ w'.heap.size = w.heap.size + 1)) := by
  have hcap : cap ≤ maxLen := by
    rcases h with ⟨_, h⟩ | ⟨_, _, _, _, _, _, h⟩
    · subst h; exact Nat.zero_le _
    · exact h
  by_cases hc : n ≤ cap
  · refine (Any8.slices_Grow_room Tryz.growL a 0 cap n w (Nat.zero_le _) (by unfold maxLen at hcap; omega) (by omega) (by omega)).mono ?_
    rintro e w' ⟨rfl, rfl⟩
    exact ⟨a, cap, rfl, hc, h, .inl ⟨rfl, rfl⟩⟩
  · obtain ⟨i0, hi, hz0, hz1, hz2⟩ := info_parts info_u64
    have key : ∃ cs : List Value, cs.length = cap ∧ (a = none → cap = 0) ∧ ∀ ad, a = some ad → ∀ j v, cs[j]? = some v → w.cell? (ad.add j) = some v := by
      rcases h with ⟨h1, h2⟩ | ⟨g, cur, e, hg, hh, hs, hm⟩
      · exact ⟨[], by simp [h2], fun _ => h2, fun ad h3 => by rw [h1] at h3; cases h3⟩
      · subst e
        refine ⟨cur.toList, by simp [hs], (fun h3 => nomatch h3), fun ad h3 j v hj => ?_⟩
        cases h3
        have e2 : (⟨g, 0, none⟩ : Addr).add j = ⟨g, 0 + j, none⟩ := by unfold Addr.add; split <;> simp_all
        rw [e2, cell_of_row w g (0 + j) cur 154 (0, 0) hh, Nat.zero_add]
        simpa using hj
    obtain ⟨cs, hl, hnil, hcs⟩ := key
    refine (Any8.slices_Grow_grow Tryz.growL i0 (u64 0) hi hz0 (by omega) a 0 cap n cs w (Nat.zero_le _) (by omega) (by rw [hz2]; omega) (by omega) (by rw [hz1]; omega) hnil hcs).mono ?_
    rintro e w' ⟨rfl, rfl⟩
    refine ⟨_, _, rfl, ?_, .inr ⟨w.heap.size, _, rfl, hbase, heap_alloc_new w.drew _, ?_, ?_⟩, .inr ⟨rfl, ((Below.refl _ w).drew.alloc (Nat.le_refl _) _), by simp⟩⟩
    · have := grownCap_ge w (0 + n) cap 154; rw [Nat.zero_add] at this ⊢; exact this
    · have h1 := grownCap_ge w (0 + n) cap (Tryz.growL_ren.t 25)
      have h2 : ∀ k, (Builtin.zeroCells (u64 0).cells k).size = k := fun k => by simp [Builtin.zeroCells, Value.cells]
      simp only [Array.size_append, h2, List.size_toArray, hl, Nat.zero_add] at *
      omega
    · exact grownCap_le_maxLen w (0 + n) cap 154 (by unfold maxLen; omega)
end Go.Proofs.YtkkgibnoggickaaGreatDoor
