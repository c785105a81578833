/- (limbs).distance: its numbers, and its memory. A slice that may be written over. slices.Grow at limbs. (The shelf_lay_g command is to be laid in plain words by shelf.sh before a claim.) -/
import Derived.Test.YtlncagdekfjinaaGreatDoorBase
import Derived.Test.YtlncagdekfjinaaGreatDoorLehmer
import Derived.Laws.AppendOwn
import Derived.Lib.SliceRun
import Derived.Shelf.Spec.SlicesGrow
import Derived.Ground.Names7Prog
namespace Go.Proofs.YtlncagdekfjinaaGreatDoor
open Go.RowKit Go.Sort Dg
theorem neg_step {Z Z' i c s q : Nat} (hs' : s < B) (h : Z' % B ^ i + Z % B ^ i = c * B ^ i) (hu : Z' / B ^ i = Z / B ^ i) (hs : s + (dig Z i + c) = q * B) :
    put Z' i s % B ^ (i + 1) + Z % B ^ (i + 1) = q * B ^ (i + 1) ∧ put Z' i s / B ^ (i + 1) = Z / B ^ (i + 1) := by
  constructor
  · rw [mod_succ, mod_succ, put_mod hs', dig_put_same hs', Nat.pow_succ', ← Nat.mul_assoc, ← hs]
    rw [Nat.add_mul, Nat.add_mul]
    omega
  · rw [put_div hs', Nat.pow_succ, ← Nat.div_div_eq_div_mul, ← Nat.div_div_eq_div_mul, hu]
theorem far_low {X Y a b Z : Nat} (h : Z + Y * b = X * a + 0) : far X Y a b = Z := by
  have h2 : (a : Int) * X - b * Y = Z := by
    have : (Z : Int) + Y * b = X * a := by exact_mod_cast h
    grind
  unfold far
  rw [h2]; rfl
theorem far_high {X Y a b Z Z' M : Nat} (h : Z + Y * b = X * a + M) (h' : Z' + Z = M) : far X Y a b = Z' := by
  have h2 : (a : Int) * X - b * Y = - (Z' : Int) := by
    have : (Z : Int) + Y * b = X * a + M := by exact_mod_cast h
    have : (Z' : Int) + Z = M := by exact_mod_cast h'
    grind
  unfold far
  rw [h2]; simp
structure But (g : Nat) (w w' : World) : Prop where
  os : w'.os = w.os
  tape : w'.tape = w.tape
  output : w'.output = w.output
  size : w.heap.size ≤ w'.heap.size
  block : ∀ k, k < w.heap.size → k ≠ g → w'.heap[k]? = w.heap[k]?
theorem But.of_below {g : Nat} {w w' : World} (h : Below w.heap.size w w') : But g w w' := ⟨h.os, h.tape, h.output, h.size, fun k hk _ => h.block k hk⟩
theorem But.digs {g : Nat} {w w' : World} (h : But g w w') {a : Option Addr} {m cap Y : Nat} (hd : DigsAt w a m cap Y) (hs : ∀ c, a = some c → m ≠ 0 → c.block ≠ g) : DigsAt w' a m cap Y :=
  ⟨hd.lt, hd.fit, fun hm => by
    obtain ⟨b, off, e, hlt, hc⟩ := hd.cells hm
    exact ⟨b, off, e, Nat.lt_of_lt_of_le hlt h.size, fun i hi => (World.cell?_of_block (w := w) (h.block b hlt (hs _ e hm))).trans (hc i hi)⟩⟩
theorem But.below {g B : Nat} {w0 w w' : World} (h0 : Below B w0 w) (h : But g w w') (hg : B ≤ g) (hB : B ≤ w.heap.size) : Below B w0 w' :=
  h0.trans ⟨h.os, h.tape, h.output, h.size, fun k hk => h.block k (by omega) (by omega)⟩
theorem rowW_but (w : World) (b off n v : Nat) : But b w (rowW w b off n v) :=
  ⟨rfl, rfl, rfl, by rw [rowW_size]; exact Nat.le_refl _, fun k _ hk => by
    unfold rowW putRow mapBlock
    simp only [Array.getElem?_modify]
    rw [if_neg (fun e => hk e.symm)]⟩
theorem But.trans {g : Nat} {a b c : World} (h : But g a b) (k : But g b c) : But g a c :=
  ⟨k.os.trans h.os, k.tape.trans h.tape, k.output.trans h.output, Nat.le_trans h.size k.size, fun i hi hg => (k.block i (Nat.lt_of_lt_of_le hi h.size) hg).trans (h.block i hi hg)⟩
end Go.Proofs.YtlncagdekfjinaaGreatDoor
namespace Go.Proofs.YtlncagdekfjinaaGreatDoor
open Go.RowKit Go.Sort Dg
def Room (w : World) (base : Nat) (a : Option Addr) (cap : Nat) : Prop :=
  (a = none ∧ cap = 0) ∨ ∃ g cur, a = some ⟨g, 0, none⟩ ∧ base ≤ g ∧ w.heap[g]? = some (.cells cur 167 (0, 0)) ∧ cur.size = cap ∧ cap ≤ maxLen
def GivesR (w : World) (r : Nat) (e : Ending) (w' : World) : Prop :=
  ∃ a cap, e = .returned (.slice a (nl r) cap) ∧ DigsAt w' a (nl r) cap r ∧ Below w.heap.size w w' ∧ Room w' w.heap.size a cap
theorem GivesR.gives {w : World} {r : Nat} {e : Ending} {w' : World} (h : GivesR w r e w') : Gives w r e w' := by
  obtain ⟨a, c, h1, h2, h3, _⟩ := h
  exact ⟨a, c, h1, h2, h3⟩
theorem Room.nil (w : World) (base : Nat) : Room w base none 0 := .inl ⟨rfl, rfl⟩
theorem mk_room (w : World) (n : Nat) (hn : n ≤ 1099511627776) : Room (mk w n) w.heap.size (some ⟨w.heap.size, 0, none⟩) n :=
  .inr ⟨w.heap.size, (digs n 0).map u64, rfl, Nat.le_refl _, by unfold mk; exact heap_alloc_new w _, by simp, by unfold maxLen; omega⟩
theorem Room.drawn {w : World} {base : Nat} {a : Option Addr} {cap : Nat} (h : Room w base a cap) (q : Nat) : Room (w.drewN q) base a cap := h
theorem Room.mono {w w' : World} {base : Nat} {a : Option Addr} {cap : Nat} (h : Room w base a cap) (hb : Below w.heap.size w w') : Room w' base a cap := by
  rcases h with h | ⟨g, cur, e, hg, hh, hs, hm⟩
  · exact .inl h
  · exact .inr ⟨g, cur, e, hg, (hb.block g (Array.getElem?_eq_some_iff.1 hh).1).trans hh, hs, hm⟩
theorem Room.low {w : World} {base base' : Nat} {a : Option Addr} {cap : Nat} (h : Room w base a cap) (hb : base' ≤ base) : Room w base' a cap := by
  rcases h with h | ⟨g, cur, e, hg, r⟩
  · exact .inl h
  · exact .inr ⟨g, cur, e, Nat.le_trans hb hg, r⟩
theorem Room.but {w w' : World} {base g : Nat} {a : Option Addr} {cap : Nat} (h : Room w base a cap) (hb : But g w w') (hg : ∀ c, a = some c → c.block ≠ g) : Room w' base a cap := by
  rcases h with h | ⟨k, cur, e, hk, hh, hs, hm⟩
  · exact .inl h
  · exact .inr ⟨k, cur, e, hk, (hb.block k (Array.getElem?_eq_some_iff.1 hh).1 (hg _ e)).trans hh, hs, hm⟩
theorem Room.rowW {w : World} {base : Nat} {a : Option Addr} {cap : Nat} (h : Room w base a cap) (b off n v : Nat) : Room (rowW w b off n v) base a cap := by
  rcases h with h | ⟨k, cur, e, hk, hh, hs, hm⟩
  · exact .inl h
  · by_cases hb : b = k
    · subst hb
      refine .inr ⟨b, putCells u64 off (digs n v) cur, e, hk, ?_, by simp [putCells, hs], hm⟩
      unfold Go.Proofs.YtlncagdekfjinaaGreatDoor.rowW putRow mapBlock
      simp only [Array.getElem?_modify, hh]
      simp [onCells]
    · exact .inr ⟨k, cur, e, hk, ((rowW_but w b off n v).block k (Array.getElem?_eq_some_iff.1 hh).1 (fun e => hb e.symm)).trans hh, hs, hm⟩
theorem setCell_but (w : World) (g o : Nat) (v : Value) : But g w (w.setCell ⟨g, o, none⟩ v) :=
  ⟨rfl, rfl, rfl, by simp, fun k _ hk => Below.heap_setCell w _ v k hk⟩
theorem Room.setCell {w : World} {base : Nat} {a : Option Addr} {cap : Nat} (h : Room w base a cap) (b o : Nat) (v : Value) : Room (w.setCell ⟨b, o, none⟩ v) base a cap := by
  rcases h with h | ⟨k, cur, e, hk, hh, hs, hm⟩
  · exact .inl h
  · by_cases hb : b = k
    · subst hb
      refine .inr ⟨b, cur.setIfInBounds o v, e, hk, ?_, by simp [hs], hm⟩
      rw [setCell_eq]
      unfold mapBlock
      simp only [Array.getElem?_modify, hh]
      simp [onCells]
    · exact .inr ⟨k, cur, e, hk, (Below.heap_setCell w _ v k (fun e => hb e.symm)).trans hh, hs, hm⟩
theorem setCells_but (g : Nat) : ∀ (vs : List Value) (o : Nat) (w : World), But g w (w.setCells g o vs)
  | [], _, _ => But.of_below (Below.refl _ _)
  | v :: r, o, w => (setCell_but w g o v).trans (setCells_but g r (o + 1) _)
theorem Room.setCells {base : Nat} {a : Option Addr} {cap : Nat} (b : Nat) : ∀ (vs : List Value) (o : Nat) (w : World), Room w base a cap → Room (w.setCells b o vs) base a cap
  | [], _, _, h => h
  | v :: r, o, _, h => Room.setCells b r (o + 1) _ (h.setCell b o v)
theorem Room.cleared {w : World} {base g cap n : Nat} (h : Room w base (some ⟨g, 0, none⟩) cap) (hn : n ≤ cap) :
    (∀ j, j < n → (w.cell? ⟨g, 0 + j, none⟩).isSome = true) ∧ (∀ j, j < n → w.frozen? ⟨g, 0 + j, none⟩ = false) ∧ Row (w.setCells g 0 (List.replicate n (u64 0))) g 0 n 0 := by
  rcases h with ⟨h, _⟩ | ⟨k, cur, e, hk, hh, hs, hm⟩
  · cases h
  · cases e
    have h1 : ∀ j, j < n → (w.cell? ⟨g, 0 + j, none⟩).isSome = true := fun j hj => by
      rw [cell_of_row w g (0 + j) cur 167 (0, 0) hh]
      simp; omega
    have h2 : ∀ j, j < n → w.frozen? ⟨g, 0 + j, none⟩ = false := fun j _ => by simp [World.frozen?, hh]
    refine ⟨h1, h2, fun j hj => ?_⟩
    have hj' : j < n := by simpa using hj
    rw [digs_get hj', dig_zero]
    refine ⟨?_, (World.frozen?_setCells g _ 0 w _).trans (h2 j hj')⟩
    rw [World.cell?_setCells_in g _ 0 w (by simpa using h1) j (by simpa using hj')]
    simp
theorem clear_run (ty : TypeId) (g n c : Nat) (w : World) (hn : 0 < n) (h1 : ∀ j, j < n → (w.cell? ⟨g, 0 + j, none⟩).isSome = true) (h2 : ∀ j, j < n → w.frozen? ⟨g, 0 + j, none⟩ = false) :
    (Builtin.clear_ #[95] ty #[.slice (some ⟨g, 0, none⟩) n c]).run Tryz.prog w = .ok (.tuple #[]) (w.setCells g 0 (List.replicate n (u64 0))) := by
  obtain ⟨i0, hi, hz0, hz1, hz2⟩ := info_parts info_u64
  exact Lib.run_clear_slice w 95 167 ty (u64 0) Tryz.underlying95 (fun w => by simp [zeroValue, typeInfo, hi, hz0]) rfl rfl g 0 n c hn h1 h2
end Go.Proofs.YtlncagdekfjinaaGreatDoor
namespace Go.Proofs
open Go.Shelf
shelf_lay_g Lays8.n4 Nm8 4 at Tryz 210 as Tryz.growL
end Go.Proofs
namespace Go.Proofs.YtlncagdekfjinaaGreatDoor
open Go.RowKit Go.Sort Dg
theorem grow_any (base : Nat) (a : Option Addr) (cap n : Nat) (w : World) (h : Room w base a cap) (hn : n ≤ 68719476736) (hbase : base ≤ w.heap.size) :
    Calls Tryz.prog 210 #[.slice a 0 cap, .int .i64 n] w fun e w' =>
      ∃ a' cap', e = .returned (.slice a' 0 cap') ∧ n ≤ cap' ∧ Room w' base a' cap' ∧ ((a' = a ∧ w' = w) ∨ (a' = some ⟨w.heap.size, 0, none⟩ ∧ Below w.heap.size w w' ∧ w'.heap.size = w.heap.size + 1)) := by
  have hcap : cap ≤ maxLen := by
    rcases h with ⟨_, h⟩ | ⟨_, _, _, _, _, _, h⟩
    · subst h; exact Nat.zero_le _
    · exact h
  by_cases hc : n ≤ cap
  · refine (Any8.slices_Grow_room Tryz.growL a 0 cap n w (Nat.zero_le _) (by unfold maxLen at hcap; omega) (by omega) (by omega)).mono ?_
    rintro e w' ⟨rfl, rfl⟩
    exact ⟨a, cap, rfl, hc, h, .inl ⟨rfl, rfl⟩⟩
  · obtain ⟨i0, hi, hz0, hz1, hz2⟩ := info_parts info_u64
    have key : ∃ cs : List Value, cs.length = cap ∧ (a = none → cap = 0) ∧ ∀ ad, a = some ad → ∀ j v, cs[j]? = some v → w.cell? (ad.add j) = some v := by
      rcases h with ⟨h1, h2⟩ | ⟨g, cur, e, hg, hh, hs, hm⟩
      · exact ⟨[], by simp [h2], fun _ => h2, fun ad h3 => by rw [h1] at h3; cases h3⟩
      · subst e
        refine ⟨cur.toList, by simp [hs], (fun h3 => nomatch h3), fun ad h3 j v hj => ?_⟩
        cases h3
        have e2 : (⟨g, 0, none⟩ : Addr).add j = ⟨g, 0 + j, none⟩ := by unfold Addr.add; split <;> simp_all
        rw [e2, cell_of_row w g (0 + j) cur 167 (0, 0) hh, Nat.zero_add]
        simpa using hj
    obtain ⟨cs, hl, hnil, hcs⟩ := key
    refine (Any8.slices_Grow_grow Tryz.growL i0 (u64 0) hi hz0 (by omega) a 0 cap n cs w (Nat.zero_le _) (by omega) (by rw [hz2]; omega) (by omega) (by rw [hz1]; omega) hnil hcs).mono ?_
    rintro e w' ⟨rfl, rfl⟩
    refine ⟨_, _, rfl, ?_, .inr ⟨w.heap.size, _, rfl, hbase, heap_alloc_new w.drew _, ?_, ?_⟩, .inr ⟨rfl, ((Below.refl _ w).drew.alloc (Nat.le_refl _) _), by simp⟩⟩
    · have := grownCap_ge w (0 + n) cap 167; rw [Nat.zero_add] at this ⊢; exact this
    · have h1 := grownCap_ge w (0 + n) cap (Tryz.growL_ren.t 25)
      have h2 : ∀ k, (Builtin.zeroCells (u64 0).cells k).size = k := fun k => by simp [Builtin.zeroCells, Value.cells]
      simp only [Array.size_append, h2, List.size_toArray, hl, Nat.zero_add] at *
      omega
    · exact grownCap_le_maxLen w (0 + n) cap 167 (by unfold maxLen; omega)
end Go.Proofs.YtlncagdekfjinaaGreatDoor
