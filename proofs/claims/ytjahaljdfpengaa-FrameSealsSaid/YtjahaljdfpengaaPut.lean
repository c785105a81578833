/- Blocks: what the program's helpers of frame/frame.go do: bytes that are put behind others, keys, the bits of values. -/
import Derived.Test.YtjahaljdfpengaaClk
import Derived.OwnWalk
import Derived.Laws.OwnMore
import Derived.Deep.AppendLies
import Derived.Deep.MidRow
namespace Go.Proofs.Ytjahaljdfpengaa
open Go.RowKit

/-- The c least significant bytes of n, the least one first. -/
def le : Nat → Nat → List Nat
  | 0, _ => []
  | c + 1, n => n % 256 :: le c (n / 256)
theorem le_len (c n : Nat) : (le c n).length = c := by
  induction c generalizing n with
  | zero => rfl
  | succ c ih => simp [le, ih]
theorem le_lt (c n : Nat) : ∀ x ∈ le c n, x < 256 := by
  induction c generalizing n with
  | zero => intro x hx; cases hx
  | succ c ih =>
    intro x hx
    rcases List.mem_cons.1 hx with rfl | hx
    · exact Nat.mod_lt _ (by decide)
    · exact ih _ x hx
theorem le_snoc (c n : Nat) : le (c + 1) n = le c n ++ [n / 256 ^ c % 256] := by
  induction c generalizing n with
  | zero => simp [le]
  | succ c ih =>
    have e : n / 256 / 256 ^ c = n / 256 ^ (c + 1) := by rw [Nat.div_div_eq_div_mul, Nat.pow_succ, Nat.mul_comm]
    rw [le, ih, e]
    rfl

theorem info_u8 : (Try.prog.info? 5).map (fun i => (i.zero, i.size, i.bytes)) = some (some (.int .u8 0), 1, 1) := by kernel_rfl
theorem conv8 (n : Nat) : IntKind.u8.wrap (n : Int) = ((n % 256 : Nat) : Int) := by rw [IntKind.wrap_u8]; omega
theorem one8 (n : Nat) : (byt n).oneCell' = true := rfl

/-- What put leaves: the row has the bytes more, and below the base nothing has turned. -/
def PutPost (base : Nat) (n : Nat) (xs : List Nat) (w : World) (e : Ending) (w' : World) : Prop :=
  ∃ v, e = .returned v ∧ w'.ownsRow base 5 1 v n (xs.map byt) ∧ Below base w w'

set_option maxHeartbeats 400000 in
set_option maxRecDepth 100000 in
theorem put_any (base : Nat) (v : Value) (n : Nat) (xs : List Nat) (c x : Nat) (w : World) (hown : w.ownsRow base 5 1 v n (xs.map byt)) (hc : c ≤ 8) (hx : x < 18446744073709551616) (hn : n ≤ 1000) (hb : base ≤ w.heap.size) :
    Calls Try.prog 70 #[v, .int .i64 c, .int .u64 (x : Int)] w (PutPost base (n + c) (xs ++ le c x) w) := by
  obtain ⟨i0, hi, hz0, hz1, hz2⟩ := info_parts info_u8
  go_enter Try.func70, Try.ntmps70
  go_wp2
  go_loopw [0, 2, 8] (fun s y i wr => ∃ k : Nat, k ≤ c ∧ i = .int .i64 k ∧ y = .int .u64 ((x / 256 ^ k : Nat) : Int) ∧ wr.ownsRow base 5 1 s (n + k) ((xs ++ le k x).map byt) ∧ Below base w wr) (fun _ _ i _ => c - (intOf i).toNat)
  case atStart => exact ⟨0, Nat.zero_le _, rfl, by simp, by simpa [le] using hown, Below.refl _ _⟩
  case round =>
    obtain ⟨k, hk, rfl, rfl, hown1, hb1⟩ := hrel
    by_cases hlt : k < c
    · have hz : x / 256 ^ k < 18446744073709551616 := Nat.lt_of_le_of_lt (Nat.div_le_self _ _) hx
      have hS := Lib.hid (le_snoc k x)
      have hP : Hid (x / 256 ^ (k + 1) = x / 256 ^ k / 256) := by rw [Nat.pow_succ, Nat.div_div_eq_div_mul]; exact Lib.hid rfl
      have e8 := conv8 (x / 256 ^ k)
      generalize hy : x / 256 ^ k = z at *
      have Hy := Lib.hid hy
      have HZ := Lib.hid hz
      clear hy hx hz
      go_wp2_with (at_builtin; refine wpList_append_own _ rfl _ _ 73 rfl base 5 i0 (.int .u8 0) 1 1 Try.underlying73 hi hz0 hz1 hz2 rfl (by decide) _ _ _ rfl (hown1.alloc _) ⟨wr.heap.size, 0, none⟩ 1 1 [byt (z % 256)] rfl rfl ?c1 ?c2 ?c3 ?c4 ?c5 ?_)
      case c1 => exact cell_one_new _ _ _
      case c2 => simp [one8]
      case c3 => unfold maxLen; omega
      case c4 => omega
      case c5 => simp; exact Nat.le_trans hb (Nat.le_trans hb1.size (Nat.le_succ _))
      intro v1 w1 hown2 hgr _
      have hb2 : Below base w w1 := (hb1.alloc (Nat.le_trans hb hb1.size) _).grown hgr (by have := hb1.size; simp; omega) (fun j hj => (hown1.lt j hj).1)
      clear hown1 hgr hown e8
      go_wp2
      go_roundw
      case rel =>
        refine ⟨k + 1, by omega, by go_num, ?_, ?_, hb2⟩
        · rw [hP.out]; rfl
        · rw [hS.out]; simpa [Nat.add_assoc] using hown2
      case measure => simp [intOf]; omega
    · obtain rfl : k = c := by omega
      go_wp2
      go_ret
      exact ⟨_, rfl, hown1, hb1⟩

/-- A frame's numbers, and the bits of its values. -/
structure Fr where
  st : Nat
  lo : Nat
  li : Nat
  nu : Nat
  cl : Nat
  v0 : Nat
  v1 : Nat
  v2 : Nat
  v3 : Nat
abbrev Fr.val (f : Fr) : Value := .agg #[.int .i64 f.st, .int .i64 f.lo, .int .i64 f.li, .int .i64 f.nu, .int .i64 f.cl, .float .f32 f.v0, .float .f32 f.v1, .float .f32 f.v2, .float .f32 f.v3]
abbrev keyV (st lo li nu : Int) : Value := .agg #[.int .i64 st, .int .i64 lo, .int .i64 li, .int .i64 nu]
def KeyOk (st lo li nu : Int) : Prop := (0 ≤ st ∧ st ≤ 65535) ∧ (0 ≤ lo ∧ lo ≤ 255) ∧ (0 ≤ li ∧ li ≤ 255) ∧ 0 ≤ nu ∧ nu ≤ 4294967295

theorem fkey_any (st lo li nu cl : Int) (a b c d : Nat) (w : World) :
    Calls Try.prog 67 #[.agg #[.int .i64 st, .int .i64 lo, .int .i64 li, .int .i64 nu, .int .i64 cl, .float .f32 a, .float .f32 b, .float .f32 c, .float .f32 d]] w fun e w' =>
      e = .returned (keyV st lo li nu) ∧ Below w.heap.size w w' := by
  go_enter Try.func67, Try.ntmps67
  go_wp2
  exact bodyPost_ret (v := keyV st lo li nu) (by simp [results, Try.results67, go_sem]) rfl ⟨rfl, ((Below.refl _ _).alloc (Nat.le_refl _) _).alloc (by simp) _⟩

theorem valid_yes (st lo li nu : Int) (w : World) (h : KeyOk st lo li nu) :
    Calls Try.prog 68 #[keyV st lo li nu] w fun e w' => e = .returned (.bool true) ∧ Below w.heap.size w w' := by
  obtain ⟨⟨a0, a1⟩, ⟨b0, b1⟩, ⟨c0, c1⟩, d0, d1⟩ := h
  go_enter Try.func68, Try.ntmps68
  go_wp2_with fail
  refine (upTo_yes _ _ _ a0 a1).mono ?_
  rintro e w' ⟨rfl, rfl⟩
  go_wp2_with fail
  refine (upTo_yes _ _ _ b0 b1).mono ?_
  rintro e w' ⟨rfl, rfl⟩
  go_wp2_with fail
  refine (upTo_yes _ _ _ c0 c1).mono ?_
  rintro e w' ⟨rfl, rfl⟩
  go_wp2_with fail
  refine (upTo_yes _ _ _ d0 d1).mono ?_
  rintro e w' ⟨rfl, rfl⟩
  go_wp2
  go_ret
  exact ⟨rfl, (Below.refl _ _).alloc (Nat.le_refl _) _⟩

theorem fbits (b : Nat) (w : World) : (callFunc 122 #[.float .f32 b]).run Try.prog w = .ok (.value (.int .u32 (b : Int))) w := by
  rw [run_callFunc_extern Try.func122 (by kernel_rfl) (by kernel_rfl) (by kernel_rfl) (e := Extern.MathFloatBits.float32bits) (by kernel_rfl)]
  rfl
/-- The bits of a value in a block. -/
def vb (b : Nat) : Nat := if (FloatKind.f32.format.order b b != some Ordering.eq) = true then 2143289344 else b
theorem bits_any (b : Nat) (w : World) : Calls Try.prog 71 #[.float .f32 b] w fun e w' => e = .returned (.int .u32 (vb b : Int)) ∧ w = w' := by
  have hf := fun w => fbits b w
  cases hq : (FloatKind.f32.format.order b b != some Ordering.eq) with
  | true =>
    have H : Hid (vb b = 2143289344) := Lib.hid (by unfold vb; rw [if_pos hq])
    go_enter Try.func71, Try.ntmps71
    go_wp2
    go_ret
    exact ⟨ret_int (by rw [H.out]; rfl), rfl⟩
  | false =>
    have H : Hid (vb b = b) := Lib.hid (by unfold vb; rw [if_neg (by rw [hq]; decide)])
    go_enter Try.func71, Try.ntmps71
    go_wp2
    go_ret
    exact ⟨ret_int (by rw [H.out]), rfl⟩

end Go.Proofs.Ytjahaljdfpengaa
