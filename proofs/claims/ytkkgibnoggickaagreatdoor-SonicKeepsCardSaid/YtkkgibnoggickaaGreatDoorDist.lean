/- (limbs).distance: its numbers, and its memory. -/
import Derived.Test.YtkkgibnoggickaaGreatDoorBase
import Derived.Test.YtkkgibnoggickaaGreatDoorLehmer
namespace Go.Proofs.YtkkgibnoggickaaGreatDoor
open Go.RowKit Go.Sort Dg

theorem neg_step {Z Z' i c s q : Nat} (hs' : s < B) (h : Z' % B ^ i + Z % B ^ i = c * B ^ i) (hu : Z' / B ^ i = Z / B ^ i) (hs : s + (dig Z i + c) = q * B) :
    put Z' i s % B ^ (i + 1) + Z % B ^ (i + 1) = q * B ^ (i + 1) ∧ put Z' i s / B ^ (i + 1) = Z / B ^ (i + 1) := by
  constructor
  · rw [mod_succ, mod_succ, put_mod hs', dig_put_same hs', Nat.pow_succ', ← Nat.mul_assoc, ← hs]
    rw [Nat.add_mul, Nat.add_mul]
    omega
  · rw [put_div hs', Nat.pow_succ, ← Nat.div_div_eq_div_mul, ← Nat.div_div_eq_div_mul, hu]

/-- What is left where the first multiple isn't the lesser one. -/
theorem far_low {X Y a b Z : Nat} (h : Z + Y * b = X * a + 0) : far X Y a b = Z := by
  have h2 : (a : Int) * X - b * Y = Z := by
    have : (Z : Int) + Y * b = X * a := by exact_mod_cast h
    grind
  unfold far
  rw [h2]; rfl

theorem far_high {X Y a b Z Z' M : Nat} (h : Z + Y * b = X * a + M) (h' : Z' + Z = M) : far X Y a b = Z' := by
  have h2 : (a : Int) * X - b * Y = - (Z' : Int) := by
    have : (Z : Int) + Y * b = X * a + M := by exact_mod_cast h
    have : (Z' : Int) + Z = M := by exact_mod_cast h'
    grind
  unfold far
  rw [h2]; simp

theorem far_lt {X Y a b k : Nat} (hX : X < B ^ k) (hY : Y < B ^ k) (ha : a < B) (hb : b < B) : X * a < B ^ (k + 1) ∧ Y * b < B ^ (k + 1) := by
  constructor
  · rw [Nat.pow_succ]; exact Nat.mul_lt_mul'' hX ha
  · rw [Nat.pow_succ]; exact Nat.mul_lt_mul'' hY hb

/-- Everything but one block is as before. -/
structure But (g : Nat) (w w' : World) : Prop where
  os : w'.os = w.os
  tape : w'.tape = w.tape
  output : w'.output = w.output
  size : w.heap.size ≤ w'.heap.size
  block : ∀ k, k < w.heap.size → k ≠ g → w'.heap[k]? = w.heap[k]?
theorem But.of_below {g : Nat} {w w' : World} (h : Below w.heap.size w w') : But g w w' := ⟨h.os, h.tape, h.output, h.size, fun k hk _ => h.block k hk⟩
theorem But.digs {g : Nat} {w w' : World} (h : But g w w') {a : Option Addr} {m cap Y : Nat} (hd : DigsAt w a m cap Y) (hs : ∀ c, a = some c → m ≠ 0 → c.block ≠ g) : DigsAt w' a m cap Y :=
  ⟨hd.lt, hd.fit, fun hm => by
    obtain ⟨b, off, e, hlt, hc⟩ := hd.cells hm
    exact ⟨b, off, e, Nat.lt_of_lt_of_le hlt h.size, fun i hi => (World.cell?_of_block (w := w) (h.block b hlt (hs _ e hm))).trans (hc i hi)⟩⟩
theorem But.below {g B : Nat} {w0 w w' : World} (h0 : Below B w0 w) (h : But g w w') (hg : B ≤ g) (hB : B ≤ w.heap.size) : Below B w0 w' :=
  h0.trans ⟨h.os, h.tape, h.output, h.size, fun k hk => h.block k (by omega) (by omega)⟩
theorem rowW_but (w : World) (b off n v : Nat) : But b w (rowW w b off n v) :=
  ⟨rfl, rfl, rfl, by rw [rowW_size]; exact Nat.le_refl _, fun k _ hk => by
    unfold rowW putRow mapBlock
    simp only [Array.getElem?_modify]
    rw [if_neg (fun e => hk e.symm)]⟩
theorem But.trans {g : Nat} {a b c : World} (h : But g a b) (k : But g b c) : But g a c :=
  ⟨k.os.trans h.os, k.tape.trans h.tape, k.output.trans h.output, Nat.le_trans h.size k.size, fun i hi hg => (k.block i (Nat.lt_of_lt_of_le hi h.size) hg).trans (h.block i hi hg)⟩
end Go.Proofs.YtkkgibnoggickaaGreatDoor
