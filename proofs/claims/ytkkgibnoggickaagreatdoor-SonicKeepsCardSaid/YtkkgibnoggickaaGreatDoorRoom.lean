/- A slice that may be written over. -/
import Derived.Test.YtkkgibnoggickaaGreatDoorDist
import Derived.Laws.AppendOwn
import Derived.Lib.SliceRun
namespace Go.Proofs.YtkkgibnoggickaaGreatDoor
open Go.RowKit Go.Sort Dg

/-- A slice that may be written over as far as its capacity goes. -/
def Room (w : World) (base : Nat) (a : Option Addr) (cap : Nat) : Prop :=
  (a = none ∧ cap = 0) ∨ ∃ g cur, a = some ⟨g, 0, none⟩ ∧ base ≤ g ∧ w.heap[g]? = some (.cells cur 154 (0, 0)) ∧ cur.size = cap ∧ cap ≤ maxLen

/-- What a function on numbers gives: the number r, in memory of its own. -/
def GivesR (w : World) (r : Nat) (e : Ending) (w' : World) : Prop :=
  ∃ a cap, e = .returned (.slice a (nl r) cap) ∧ DigsAt w' a (nl r) cap r ∧ Below w.heap.size w w' ∧ Room w' w.heap.size a cap
theorem GivesR.gives {w : World} {r : Nat} {e : Ending} {w' : World} (h : GivesR w r e w') : Gives w r e w' := by
  obtain ⟨a, c, h1, h2, h3, _⟩ := h
  exact ⟨a, c, h1, h2, h3⟩
theorem Room.nil (w : World) (base : Nat) : Room w base none 0 := .inl ⟨rfl, rfl⟩

theorem mk_room (w : World) (n : Nat) (hn : n ≤ 1099511627776) : Room (mk w n) w.heap.size (some ⟨w.heap.size, 0, none⟩) n :=
  .inr ⟨w.heap.size, (digs n 0).map u64, rfl, Nat.le_refl _, by unfold mk; exact heap_alloc_new w _, by simp, by unfold maxLen; omega⟩
theorem Room.drawn {w : World} {base : Nat} {a : Option Addr} {cap : Nat} (h : Room w base a cap) (q : Nat) : Room (w.drewN q) base a cap := h
theorem Room.mono {w w' : World} {base : Nat} {a : Option Addr} {cap : Nat} (h : Room w base a cap) (hb : Below w.heap.size w w') : Room w' base a cap := by
  rcases h with h | ⟨g, cur, e, hg, hh, hs, hm⟩
  · exact .inl h
  · exact .inr ⟨g, cur, e, hg, (hb.block g (Array.getElem?_eq_some_iff.1 hh).1).trans hh, hs, hm⟩
theorem Room.low {w : World} {base base' : Nat} {a : Option Addr} {cap : Nat} (h : Room w base a cap) (hb : base' ≤ base) : Room w base' a cap := by
  rcases h with h | ⟨g, cur, e, hg, r⟩
  · exact .inl h
  · exact .inr ⟨g, cur, e, Nat.le_trans hb hg, r⟩
theorem Room.but {w w' : World} {base g : Nat} {a : Option Addr} {cap : Nat} (h : Room w base a cap) (hb : But g w w') (hg : ∀ c, a = some c → c.block ≠ g) : Room w' base a cap := by
  rcases h with h | ⟨k, cur, e, hk, hh, hs, hm⟩
  · exact .inl h
  · exact .inr ⟨k, cur, e, hk, (hb.block k (Array.getElem?_eq_some_iff.1 hh).1 (hg _ e)).trans hh, hs, hm⟩
theorem Room.rowW {w : World} {base : Nat} {a : Option Addr} {cap : Nat} (h : Room w base a cap) (b off n v : Nat) : Room (rowW w b off n v) base a cap := by
  rcases h with h | ⟨k, cur, e, hk, hh, hs, hm⟩
  · exact .inl h
  · by_cases hb : b = k
    · subst hb
      refine .inr ⟨b, putCells u64 off (digs n v) cur, e, hk, ?_, by simp [putCells, hs], hm⟩
      unfold Go.Proofs.YtkkgibnoggickaaGreatDoor.rowW putRow mapBlock
      simp only [Array.getElem?_modify, hh]
      simp [onCells]
    · exact .inr ⟨k, cur, e, hk, ((rowW_but w b off n v).block k (Array.getElem?_eq_some_iff.1 hh).1 (fun e => hb e.symm)).trans hh, hs, hm⟩
theorem setCell_but (w : World) (g o : Nat) (v : Value) : But g w (w.setCell ⟨g, o, none⟩ v) :=
  ⟨rfl, rfl, rfl, by simp, fun k _ hk => Below.heap_setCell w _ v k hk⟩
theorem Room.setCell {w : World} {base : Nat} {a : Option Addr} {cap : Nat} (h : Room w base a cap) (b o : Nat) (v : Value) : Room (w.setCell ⟨b, o, none⟩ v) base a cap := by
  rcases h with h | ⟨k, cur, e, hk, hh, hs, hm⟩
  · exact .inl h
  · by_cases hb : b = k
    · subst hb
      refine .inr ⟨b, cur.setIfInBounds o v, e, hk, ?_, by simp [hs], hm⟩
      rw [setCell_eq]
      unfold mapBlock
      simp only [Array.getElem?_modify, hh]
      simp [onCells]
    · exact .inr ⟨k, cur, e, hk, (Below.heap_setCell w _ v k (fun e => hb e.symm)).trans hh, hs, hm⟩
theorem setCells_but (g : Nat) : ∀ (vs : List Value) (o : Nat) (w : World), But g w (w.setCells g o vs)
  | [], _, _ => But.of_below (Below.refl _ _)
  | v :: r, o, w => (setCell_but w g o v).trans (setCells_but g r (o + 1) _)
theorem Room.setCells {base : Nat} {a : Option Addr} {cap : Nat} (b : Nat) : ∀ (vs : List Value) (o : Nat) (w : World), Room w base a cap → Room (w.setCells b o vs) base a cap
  | [], _, _, h => h
  | v :: r, o, _, h => Room.setCells b r (o + 1) _ (h.setCell b o v)

/-- What clear makes of a part of it. -/
theorem Room.cleared {w : World} {base g cap n : Nat} (h : Room w base (some ⟨g, 0, none⟩) cap) (hn : n ≤ cap) :
    (∀ j, j < n → (w.cell? ⟨g, 0 + j, none⟩).isSome = true) ∧ (∀ j, j < n → w.frozen? ⟨g, 0 + j, none⟩ = false) ∧ Row (w.setCells g 0 (List.replicate n (u64 0))) g 0 n 0 := by
  rcases h with ⟨h, _⟩ | ⟨k, cur, e, hk, hh, hs, hm⟩
  · cases h
  · cases e
    have h1 : ∀ j, j < n → (w.cell? ⟨g, 0 + j, none⟩).isSome = true := fun j hj => by
      rw [cell_of_row w g (0 + j) cur 154 (0, 0) hh]
      simp; omega
    have h2 : ∀ j, j < n → w.frozen? ⟨g, 0 + j, none⟩ = false := fun j _ => by simp [World.frozen?, hh]
    refine ⟨h1, h2, fun j hj => ?_⟩
    have hj' : j < n := by simpa using hj
    rw [digs_get hj', dig_zero]
    refine ⟨?_, (World.frozen?_setCells g _ 0 w _).trans (h2 j hj')⟩
    rw [World.cell?_setCells_in g _ 0 w (by simpa using h1) j (by simpa using hj')]
    simp

theorem clear_run (ty : TypeId) (g n c : Nat) (w : World) (hn : 0 < n) (h1 : ∀ j, j < n → (w.cell? ⟨g, 0 + j, none⟩).isSome = true) (h2 : ∀ j, j < n → w.frozen? ⟨g, 0 + j, none⟩ = false) :
    (Builtin.clear_ #[26] ty #[.slice (some ⟨g, 0, none⟩) n c]).run Tryz.prog w = .ok (.tuple #[]) (w.setCells g 0 (List.replicate n (u64 0))) := by
  obtain ⟨i0, hi, hz0, hz1, hz2⟩ := info_parts info_u64
  exact Lib.run_clear_slice w 26 154 ty (u64 0) Tryz.underlying26 (fun w => by simp [zeroValue, typeInfo, hi, hz0]) rfl rfl g 0 n c hn h1 h2
end Go.Proofs.YtkkgibnoggickaaGreatDoor
