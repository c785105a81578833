/- Digests: of the program and of the reference, both are 'dg'. -/
import Derived.Test.YtjahaljdfpengaaRows
import Derived.WalkKit
import Derived.WalkSpells
import Derived.WalkLawsBesides
import Derived.Handy
import Derived.Laws.BitsAllLaws
import Derived.Outline
import Derived.Lib.Hide
import Derived.Deep.DeepFit
namespace Go.Proofs.Ytjahaljdfpengaa
open Go.RowKit


abbrev byt (n : Nat) : Value := .int .u8 (n : Int)

/-- Turned to the left by 29 bits. -/
def rot (x : Nat) : Nat := (x * 536870912 % 18446744073709551616) ||| (x / 34359738368)
theorem rot_lt (x : Nat) (h : x < 18446744073709551616) : rot x < 18446744073709551616 := by
  unfold rot
  exact Nat.or_lt_two_pow (n := 64) (by omega) (by omega)
/-- The factor of digests. -/
def fac : Nat := 2685821657736338717
theorem fac_int : (2685821657736338717 : Int) = (fac : Int) := rfl
def stp (h x : Nat) : Nat := rot ((h ^^^ x) * fac % 18446744073709551616)
theorem stp_lt (h x : Nat) : stp h x < 18446744073709551616 := rot_lt _ (Nat.mod_lt _ (by decide))
def dg (h : Nat) (l : List Nat) : Nat := l.foldl stp h
theorem dg_lt (h : Nat) (hh : h < 18446744073709551616) (l : List Nat) : dg h l < 18446744073709551616 := by
  unfold dg
  induction l generalizing h with
  | nil => exact hh
  | cons x l ih => exact ih _ (stp_lt _ _)
theorem dg_append (h : Nat) (l m : List Nat) : dg h (l ++ m) = dg (dg h l) m := List.foldl_append

theorem wrapN (n : Nat) : IntKind.u64.wrap (n : Int) = ((n % 18446744073709551616 : Nat) : Int) := by rw [IntKind.wrap_u64]; omega

theorem or_rot (x : Nat) (hx : x < 18446744073709551616) : bits BinOp.or IntKind.u64 (IntKind.u64.wrap (↑x * 536870912)) (↑x / 34359738368) = ((rot x : Nat) : Int) := by
  have e1 : IntKind.u64.wrap ((x : Int) * 536870912) = ((x * 536870912 % 18446744073709551616 : Nat) : Int) := by rw [← wrapN]; rfl
  have e2 : (x : Int) / 34359738368 = ((x / 34359738368 : Nat) : Int) := rfl
  rw [e1, e2, u64_or_nat _ _ (by omega) (by omega)]
  rfl

theorem rot_any (x : Nat) (hx : x < 18446744073709551616) (w : World) :
    Calls Try.prog 123 #[.int .u64 (x : Int), .int .i64 29] w fun e w' => e = .returned (.int .u64 (rot x : Int)) ∧ w = w' := by
  have h1 : bits .and .u64 29 63 = 29 := by decide +kernel
  go_enter Try.func123, Try.ntmps123
  go_wp2
  go_ret
  refine ⟨?_, rfl⟩
  show Ending.returned (Value.int IntKind.u64 (bits BinOp.or IntKind.u64 (IntKind.u64.wrap (↑x * 536870912)) (↑x / 34359738368))) = _
  rw [or_rot x hx]

/-- The slice lies in memory as these bytes. -/
def BytesAt (w : World) (a : Option Addr) (l : List Nat) : Prop :=
  (∀ n ∈ l, n < 256) ∧ (0 < l.length → ∃ ad, a = some ad ∧ ad.block < w.heap.size ∧ ∀ i, i < l.length → w.cell? (ad.add i) = some (byt (l.getD i 0)))
theorem BytesAt.mono {w w' : World} {a : Option Addr} {l : List Nat} (h : BytesAt w a l) (hb : Below w.heap.size w w') : BytesAt w' a l :=
  ⟨h.1, fun hl => by
    obtain ⟨ad, e, hlt, hc⟩ := h.2 hl
    refine ⟨ad, e, Nat.lt_of_lt_of_le hlt hb.size, fun i hi => ?_⟩
    rw [← hc i hi]
    exact hb.cell (by unfold Addr.add; split <;> exact hlt)⟩

theorem foldl_one (f : Nat → Nat → Nat) (h x : Nat) : [x].foldl f h = f h x := rfl
theorem dg_one (h x : Nat) : dg h [x] = stp h x := foldl_one stp h x
theorem ret_int {k : IntKind} {a b : Int} (h : a = b) : Ending.returned (.int k a) = .returned (.int k b) := by rw [h]
theorem dg_snoc (h : Nat) (l : List Nat) (k : Nat) (hk : k < l.length) : dg h (l.take (k + 1)) = stp (dg h (l.take k)) (l.getD k 0) := by
  have e : l.getD k 0 = l[k] := by simp [List.getD, hk]
  rw [List.take_succ_eq_append_getElem hk, dg_append, e, dg_one]

theorem wrap_mul (z f : Nat) : IntKind.u64.wrap ((z : Int) * (f : Int)) = ((z * f % 18446744073709551616 : Nat) : Int) := by rw [← Int.natCast_mul, wrapN]
/-- What the walk's operations make of a digest and a byte. -/
theorem xor_mul (h n : Nat) (hh : h < 18446744073709551616) (hn : n < 18446744073709551616) :
    IntKind.u64.wrap (bits .xor .u64 (h : Int) (n : Int) * 2685821657736338717) = (((h ^^^ n) * fac % 18446744073709551616 : Nat) : Int) := by
  rw [u64_xor_nat h n hh hn, fac_int, wrap_mul]
theorem ref_step (h n : Nat) (hh : h < 18446744073709551616) (hn : n < 256) :
    bits .or .u64 (IntKind.u64.wrap (IntKind.u64.wrap (bits .xor .u64 (h : Int) (n : Int) * 2685821657736338717) * 536870912)) (IntKind.u64.wrap (bits .xor .u64 (h : Int) (n : Int) * 2685821657736338717) / 34359738368) = ((stp h n : Nat) : Int) := by
  rw [xor_mul h n hh (by omega)]
  unfold stp
  have hf : (h ^^^ n) * fac % 18446744073709551616 < 18446744073709551616 := Nat.mod_lt _ (by decide)
  generalize (h ^^^ n) * fac % 18446744073709551616 = z at *
  exact or_rot z hf
theorem rot_at (h n : Nat) (hh : h < 18446744073709551616) (hn : n < 256) (w : World) :
    Calls Try.prog 123 #[.int .u64 (IntKind.u64.wrap (bits .xor .u64 (h : Int) (n : Int) * 2685821657736338717)), .int .i64 29] w fun e w' => e = .returned (.int .u64 (stp h n : Int)) ∧ w = w' := by
  rw [xor_mul h n hh (by omega)]
  unfold stp
  have hf : (h ^^^ n) * fac % 18446744073709551616 < 18446744073709551616 := Nat.mod_lt _ (by decide)
  generalize (h ^^^ n) * fac % 18446744073709551616 = z at *
  exact rot_any z hf w

set_option maxRecDepth 100000 in
theorem digest_any (s : Nat) (hs : s < 18446744073709551616) (a : Option Addr) (l : List Nat) (cap : Nat) (w : World) (hb : BytesAt w a l) (hl : l.length ≤ 1152921504606846976) :
    Calls Try.prog 72 #[.int .u64 (s : Int), .slice a l.length cap] w fun e w' => e = .returned (.int .u64 (dg s l : Int)) ∧ w = w' := by
  go_enter Try.func72, Try.ntmps72
  go_wp2
  go_loop [5, 11] (fun h i => ∃ k : Nat, k ≤ l.length ∧ i = .int .i64 k ∧ h = .int .u64 (dg s (l.take k) : Int)) (fun _ i => l.length - (intOf i).toNat)
  case atStart => exact ⟨0, Nat.zero_le _, rfl, rfl⟩
  case round =>
    obtain ⟨k, hk, rfl, rfl⟩ := hrel
    by_cases hlt : k < l.length
    · obtain ⟨ad, rfl, hlt2, hc⟩ := hb.2 (by omega)
      have hx := dg_lt s hs (l.take k)
      have hn : l.getD k 0 < 256 := hb.1 _ (by rw [List.getD, List.getElem?_eq_getElem hlt]; simp)
      have H := Lib.hid (dg_snoc s l k hlt)
      have hcell := hc k hlt
      clear hc
      generalize dg s (l.take k) = h at *
      generalize l.getD k 0 = n at *
      have HX := Lib.hid hx
      clear hx hs
      go_wp2_with (go_at_call 123; refine (rot_at _ _ HX.out hn _).mono ?_; rintro e w' ⟨rfl, rfl⟩)
      go_round
      case rel => exact ⟨k + 1, by omega, by go_num, by rw [H.out]⟩
      case measure => simp [intOf]; omega
    · go_wp2
      go_ret
      exact ⟨ret_int (by rw [List.take_of_length_le (by omega)]), rfl⟩

set_option maxRecDepth 100000 in
theorem refDigest_any (s : Nat) (hs : s < 18446744073709551616) (a : Option Addr) (l : List Nat) (cap : Nat) (w : World) (hb : BytesAt w a l) (hl : l.length ≤ 1152921504606846976) :
    Calls Try.prog 75 #[.int .u64 (s : Int), .slice a l.length cap] w fun e w' => e = .returned (.int .u64 (dg s l : Int)) ∧ w = w' := by
  go_enter Try.func75, Try.ntmps75
  go_wp2
  go_loop [5, 6] (fun h i => ∃ k : Nat, k ≤ l.length ∧ i = .int .i64 k ∧ h = .int .u64 (dg s (l.take k) : Int)) (fun _ i => l.length - (intOf i).toNat)
  case atStart => exact ⟨0, Nat.zero_le _, rfl, rfl⟩
  case round =>
    obtain ⟨k, hk, rfl, rfl⟩ := hrel
    by_cases hlt : k < l.length
    · obtain ⟨ad, rfl, hlt2, hc⟩ := hb.2 (by omega)
      have hx := dg_lt s hs (l.take k)
      have hn : l.getD k 0 < 256 := hb.1 _ (by rw [List.getD, List.getElem?_eq_getElem hlt]; simp)
      have H := Lib.hid (dg_snoc s l k hlt)
      have hcell := hc k hlt
      clear hc
      generalize dg s (l.take k) = h at *
      generalize l.getD k 0 = n at *
      have HX := Lib.hid hx
      clear hx hs
      go_wp2
      go_round
      case rel => exact ⟨k + 1, by omega, by go_num, by rw [H.out]; exact congrArg (Value.int .u64) (ref_step h n HX.out hn)⟩
      case measure => simp [intOf]; omega
    · go_wp2
      go_ret
      exact ⟨ret_int (by rw [List.take_of_length_le (by omega)]), rfl⟩
end Go.Proofs.Ytjahaljdfpengaa
