/- total, Sum: sums of lists. Sub and Sum. -/
import Derived.Test.YtbdgjnjpckhpfaaGreatDoorFrac5
import Derived.Test.YtbdgjnjpckhpfaaGreatDoorFrac7
import Derived.WalkSpells
namespace Go.Proofs.YtbdgjnjpckhpfaaGreatDoor
open Go.RowKit Go.Sort Dg Fr

def sumQ : List Rat → Rat
  | [] => 0
  | q :: l => q + sumQ l
theorem sumQ_append (a b : List Rat) : sumQ (a ++ b) = sumQ a + sumQ b := by
  induction a with
  | nil => show sumQ b = 0 + sumQ b; grind
  | cons q l ih => show q + sumQ (l ++ b) = q + sumQ l + sumQ b; rw [ih]; grind
/-- Fractions one behind the other. -/
def FracsAt (w : World) (a : Option Addr) (qs : List Rat) : Prop :=
  qs ≠ [] → ∃ b off, a = some ⟨b, off, none⟩ ∧ b < w.heap.size ∧ ∀ i (hi : i < qs.length), ∃ v0 v1 v2, w.cell? ⟨b, off + i * 3, none⟩ = some v0 ∧ w.cell? ⟨b, off + i * 3 + 1, none⟩ = some v1 ∧ w.cell? ⟨b, off + i * 3 + 2, none⟩ = some v2 ∧ FracAt w (.agg #[v0, v1, v2]) qs[i]
theorem FracsAt.mono {w w' : World} {a : Option Addr} {qs : List Rat} (h : FracsAt w a qs) (hb : Below w.heap.size w w') : FracsAt w' a qs := fun hq => by
  obtain ⟨b, off, e, hlt, hc⟩ := h hq
  refine ⟨b, off, e, Nat.lt_of_lt_of_le hlt hb.size, fun i hi => ?_⟩
  obtain ⟨v0, v1, v2, h0, h1, h2, hf⟩ := hc i hi
  exact ⟨v0, v1, v2, (hb.cell (p := ⟨b, _, none⟩) hlt).trans h0, (hb.cell (p := ⟨b, _, none⟩) hlt).trans h1, (hb.cell (p := ⟨b, _, none⟩) hlt).trans h2, hf.mono hb⟩
theorem FracsAt.drew {w : World} {a : Option Addr} {qs : List Rat} (h : FracsAt w a qs) : FracsAt w.drew a qs := h.mono (below_drew (Below.refl _ _))
theorem FracsAt.take {w : World} {a : Option Addr} {qs : List Rat} (h : FracsAt w a qs) (k : Nat) : FracsAt w a (qs.take k) := fun hq => by
  have h0 : qs ≠ [] := by rintro rfl; simp at hq
  obtain ⟨b, off, e, hlt, hc⟩ := h h0
  refine ⟨b, off, e, hlt, fun i hi => ?_⟩
  have hi' : i < qs.length := by simp at hi; omega
  rw [List.getElem_take]
  exact hc i hi'
theorem FracsAt.drop {w : World} {b off : Nat} {qs : List Rat} (h : FracsAt w (some ⟨b, off, none⟩) qs) (k : Nat) : FracsAt w (some ⟨b, off + k * 3, none⟩) (qs.drop k) := fun hq => by
  have h0 : qs ≠ [] := by rintro rfl; simp at hq
  obtain ⟨b', off', e, hlt, hc⟩ := h h0
  cases e
  refine ⟨b, off + k * 3, rfl, hlt, fun i hi => ?_⟩
  have hi' : k + i < qs.length := by simp at hi; omega
  rw [List.getElem_drop]
  have := hc (k + i) hi'
  rw [show off + (k + i) * 3 = off + k * 3 + i * 3 by omega] at this
  exact this
/-- All sums of neighbours are small. -/
def AllSmall (qs : List Rat) : Prop := ∀ i j, Small (sumQ ((qs.drop i).take j))
theorem AllSmall.take {qs : List Rat} (h : AllSmall qs) (k : Nat) : AllSmall (qs.take k) := fun i j => by
  rw [List.drop_take, List.take_take]; exact h i _
theorem AllSmall.drop {qs : List Rat} (h : AllSmall qs) (k : Nat) : AllSmall (qs.drop k) := fun i j => by
  rw [List.drop_drop]; exact h _ j
theorem AllSmall.all {qs : List Rat} (h : AllSmall qs) : Small (sumQ qs) := by
  have := h 0 qs.length
  rwa [List.drop_zero, List.take_length] at this
theorem sum_halves (qs : List Rat) (k : Nat) : sumQ (qs.take k) + sumQ (qs.drop k) = sumQ qs := by rw [← sumQ_append, List.take_append_drop]

end Go.Proofs.YtbdgjnjpckhpfaaGreatDoor
namespace Go.Proofs.YtbdgjnjpckhpfaaGreatDoor
open Go.RowKit Go.Sort Dg Fr

theorem two_at {w : World} {a0 a1 a2 b0 b1 b2 : Value} {x y : Rat} (hx : FracAt w (.agg #[a0, a1, a2]) x) (hy : FracAt w (.agg #[b0, b1, b2]) y) :
    FracsAt (w.alloc (.cells #[a0, a1, a2, b0, b1, b2] 26)) (some ⟨w.heap.size, 0, none⟩) [x, y] := fun _ => by
  have hB := Box.new w 26 #[a0, a1, a2, b0, b1, b2]
  have hb : Below w.heap.size w (w.alloc (.cells #[a0, a1, a2, b0, b1, b2] 26)) := (Below.refl _ _).alloc (Nat.le_refl _) _
  refine ⟨w.heap.size, 0, rfl, by simp, fun i hi => ?_⟩
  match i, hi with
  | 0, _ => exact ⟨a0, a1, a2, hB.at_ rfl, hB.at_ rfl, hB.at_ rfl, hx.mono hb⟩
  | 1, _ => exact ⟨b0, b1, b2, hB.at_ rfl, hB.at_ rfl, hB.at_ rfl, hy.mono hb⟩
theorem Small.zero : Small 0 := ⟨by decide, by decide⟩
theorem small_two {x y : Rat} (hx : Small x) (hy : Small y) (hxy : Small (x + y)) : AllSmall [x, y] := by
  have e1 : x + 0 = x := by grind
  have e2 : y + 0 = y := by grind
  intro i j
  match i with
  | 0 =>
    match j with
    | 0 => exact Small.zero
    | 1 => show Small (x + 0); rw [e1]; exact hx
    | j + 2 => show Small (x + (y + sumQ (List.take j []))); rw [List.take_nil]; show Small (x + (y + 0)); rw [e2]; exact hxy
  | 1 =>
    match j with
    | 0 => exact Small.zero
    | j + 1 => show Small (y + sumQ (List.take j [])); rw [List.take_nil]; show Small (y + 0); rw [e2]; exact hy
  | i + 2 => show Small (sumQ (List.take j (List.drop i []))); rw [List.drop_nil, List.take_nil]; exact Small.zero
end Go.Proofs.YtbdgjnjpckhpfaaGreatDoor
