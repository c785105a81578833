/- Blocks as values: two are equal where their bytes are. -/
import Derived.Test.YtjahaljdfpengaaOpen2
import Derived.Stop.BytesEq
namespace Go.Proofs.Ytjahaljdfpengaa
open Go.RowKit
theorem byt_cell (l : List Nat) (hl : ∀ x ∈ l, x < 256) : l.map byt = (l.map UInt8.ofNat).map Extern.Stop.cell := by
  rw [List.map_map]
  refine List.map_congr_left fun x hx => ?_
  have h := hl x hx
  simp only [Function.comp, Extern.Stop.cell, byt]
  congr 1
  have : (UInt8.ofNat x).toNat = x := by simp; omega
  rw [this]
  rfl
theorem ofNat_inj (l m : List Nat) (hl : ∀ x ∈ l, x < 256) (hm : ∀ x ∈ m, x < 256) : l.map UInt8.ofNat = m.map UInt8.ofNat ↔ l = m := by
  refine ⟨fun h => ?_, fun h => by rw [h]⟩
  have := congrArg (List.map UInt8.toNat) h
  have e : ∀ l : List Nat, (∀ x ∈ l, x < 256) → (l.map UInt8.ofNat).map UInt8.toNat = l := fun l hl => by
    rw [List.map_map]
    conv => rhs; rw [← List.map_id l]
    refine List.map_congr_left fun x hx => ?_
    have := hl x hx
    simp
    omega
  rwa [e l hl, e m hm] at this
theorem neq_blocks (t : TypeId) (ht : Try.prog.underlying t = some (.array 40 5)) (l m : List Nat) (hl : l.length = 40) (hm : m.length = 40) (hlx : ∀ x ∈ l, x < 256) (hmx : ∀ x ∈ m, x < 256) (w : World) :
    (binOp .neq t (.agg (l.map byt).toArray) (.agg (m.map byt).toArray)).run Try.prog w = .ok (.bool (decide (l ≠ m))) w := by
  rw [run_neq_struct, byt_cell l hlx, byt_cell m hmx, run_equalIn_bytes w 9998 t 5 40 ht Try.underlying5 (fun w => by kernel_rfl) _ _ (by simp [hl]) (by simp [hm])]
  have : (l.map UInt8.ofNat == m.map UInt8.ofNat) = decide (l = m) := by
    rw [Bool.eq_iff_iff]
    simp only [beq_iff_eq, decide_eq_true_eq]
    exact ofNat_inj l m hlx hmx
  simp [this]
theorem neq_B (l m : List Nat) (hl : l.length = 40) (hm : m.length = 40) (hlx : ∀ x ∈ l, x < 256) (hmx : ∀ x ∈ m, x < 256) (w : World) :
    (binOp .neq 27 (.agg (l.map byt).toArray) (.agg (m.map byt).toArray)).run Try.prog w = .ok (.bool (decide (l ≠ m))) w := neq_blocks _ Try.underlying27 l m hl hm hlx hmx w
theorem neq_R (l m : List Nat) (hl : l.length = 40) (hm : m.length = 40) (hlx : ∀ x ∈ l, x < 256) (hmx : ∀ x ∈ m, x < 256) (w : World) :
    (binOp .neq 31 (.agg (l.map byt).toArray) (.agg (m.map byt).toArray)).run Try.prog w = .ok (.bool (decide (l ≠ m))) w := neq_blocks _ Try.underlying31 l m hl hm hlx hmx w
end Go.Proofs.Ytjahaljdfpengaa
