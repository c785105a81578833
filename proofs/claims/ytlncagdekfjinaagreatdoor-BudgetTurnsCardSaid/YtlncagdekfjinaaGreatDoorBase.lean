/- What the texts of package num share: the operations on words, and how a number lies in memory as a row of digits. -/
import Derived.Test.YtlncagdekfjinaaGreatDoorDigits
import Derived.Test.YtlncagdekfjinaaGreatDoorShelf
import Derived.Test.YtlncagdekfjinaaGreatDoorRows
import Derived.WalkKit
import Derived.WalkSpells
import Derived.WalkLawsBesides
import Derived.Handy
import Derived.Sort.Row
import Derived.Deep.Draws
import Derived.Laws.Externs
import Derived.Laws.BitsAllLaws
import Derived.Shelf.Spec.BitsCarry
import Derived.BigRegion
import Derived.BigQuiet
import Derived.Deep.QuietTactic
import Derived.Deep.DeepFit
import Derived.Outline
import Derived.Lib.Hide
namespace Go.Proofs.YtlncagdekfjinaaGreatDoor
open Go.RowKit Go.Sort
open Dg
abbrev u64 (n : Nat) : Value := .int .u64 (n : Int)
theorem add64 (x y c : Nat) (hc : c ≤ 1) (w : World) :
    (callFunc 205 #[u64 x, u64 y, u64 c]).run Tryz.prog w = .ok (.value (.tuple #[u64 ((x + y + c) % B), u64 ((x + y + c) / B)])) w := by
  rw [run_callFunc_extern Tryz.func205 (by kernel_rfl) (by kernel_rfl) (by kernel_rfl) (e := add64Entry) (by kernel_rfl), run_add64 x y c (by omega) (by omega) (by omega) (by omega)]
  simp only [Result.andThen, B]
  congr 5 <;> omega
theorem add64_0 (x c : Nat) (hc : c ≤ 1) (w : World) :
    (callFunc 205 #[u64 x, .int .u64 0, u64 c]).run Tryz.prog w = .ok (.value (.tuple #[u64 ((x + c) % B), u64 ((x + c) / B)])) w := add64 x 0 c hc w
theorem add64_n (x y : Nat) (w : World) :
    (callFunc 205 #[u64 x, u64 y, .int .u64 0]).run Tryz.prog w = .ok (.value (.tuple #[u64 ((x + y) % B), u64 ((x + y) / B)])) w := add64 x y 0 (by omega) w
def sb (x z : Nat) : Nat := (x + 2 * B - z) % B
def ow (x z : Nat) : Nat := if x < z then 1 else 0
theorem ow_le (x z : Nat) : ow x z ≤ 1 := by unfold ow; split <;> omega
theorem sb_lt (x z : Nat) : sb x z < B := Nat.mod_lt _ B_pos
theorem sb_ow {x z : Nat} (hx : x < B) (hz : z ≤ B) : sb x z + z = x + ow x z * B := by
  unfold sb ow B at *; split <;> omega
theorem sub64 (x y b : Nat) (hy : y < B) (hb : b ≤ 1) (w : World) :
    (callFunc 212 #[u64 x, u64 y, u64 b]).run Tryz.prog w = .ok (.value (.tuple #[u64 (sb x (y + b)), u64 (ow x (y + b))])) w := by
  rw [run_callFunc_extern Tryz.func212 (by kernel_rfl) (by kernel_rfl) (by kernel_rfl) (e := sub64Entry) (by kernel_rfl), run_sub64 x y b hb]
  have e1 : (x + 18446744073709551616 - y - b) % 18446744073709551616 = sb x (y + b) := by unfold sb B at *; omega
  rw [e1]
  rfl
theorem sub64_0 (x b : Nat) (hb : b ≤ 1) (w : World) :
    (callFunc 212 #[u64 x, .int .u64 0, u64 b]).run Tryz.prog w = .ok (.value (.tuple #[u64 (sb x b), u64 (ow x b)])) w := by
  have := sub64 x 0 b B_pos hb w; rw [Nat.zero_add] at this; exact this
theorem sub64_n (x y : Nat) (hy : y < B) (w : World) :
    (callFunc 212 #[u64 x, u64 y, .int .u64 0]).run Tryz.prog w = .ok (.value (.tuple #[u64 (sb x y), u64 (ow x y)])) w := sub64 x y 0 hy (by omega) w
def digs (n v : Nat) : Array Nat := Array.ofFn (fun i : Fin n => dig v i)
@[simp] theorem digs_size (n v : Nat) : (digs n v).size = n := by simp [digs]
theorem digs_get {n v i : Nat} (h : i < n) : (digs n v)[i]! = dig v i := by
  rw [getElem!_pos _ i (by simpa using h)]; simp [digs]
theorem digs_set {n v i d : Nat} (hd : d < B) : (digs n v).setIfInBounds i d = digs n (put v i d) := by
  apply Array.ext
  · simp
  · intro j h1 h2
    simp at h1
    rw [Array.getElem_setIfInBounds (by simpa using h1)]
    simp only [digs, Array.getElem_ofFn]
    split
    · subst_vars; exact (dig_put_same hd).symm
    · rename_i h; exact (dig_put_other hd (Ne.symm h)).symm
def rowW (w : World) (b off n v : Nat) : World := putRow u64 w b off (digs n v)
def Row (w : World) (b off n v : Nat) : Prop := Holds u64 w b off (digs n v)
theorem Row.self {w : World} {b off n v : Nat} (h : Row w b off n v) : rowW w b off n v = w := putRow_self _ _ _ _ _ h
theorem Row.cell {w : World} {b off n v u i : Nat} (h : Row w b off n v) (hi : i < n) : (rowW w b off n u).cell? ⟨b, off + i, none⟩ = some (u64 (dig u i)) := by
  have := cell?_putRow u64 w b off (digs n v) (digs n u) h (by simp) i (by simpa using hi)
  rw [digs_get hi] at this; exact this
theorem Row.free {w : World} {b off n v u i : Nat} (h : Row w b off n v) (hi : i < n) : (rowW w b off n u).frozen? ⟨b, off + i, none⟩ = false := by
  unfold rowW; rw [frozen?_putRow]; exact (h i (by simpa using hi)).2
theorem rowW_set {w : World} {b off n v i d : Nat} (hi : i < n) (hd : d < B) : (rowW w b off n v).setCell ⟨b, off + i, none⟩ (u64 d) = rowW w b off n (put v i d) := by
  unfold rowW; rw [← digs_set hd]; exact putRow_set u64 w b off (digs n v) i d (by simpa using hi)
theorem rowW_other {w : World} {b off n v : Nat} {a : Addr} (h : a.block ≠ b ∨ a.off < off ∨ off + n ≤ a.off) : (rowW w b off n v).cell? a = w.cell? a :=
  cell?_putRow_other u64 w b off (digs n v) a (by simpa using h)
@[simp] theorem rowW_size (w : World) (b off n v : Nat) : (rowW w b off n v).heap.size = w.heap.size := by simp [rowW]
structure DigsAt (w : World) (a : Option Addr) (m cap Y : Nat) : Prop where
  lt : Y < B ^ m
  fit : m ≤ cap
  cells : m ≠ 0 → ∃ b off, a = some ⟨b, off, none⟩ ∧ b < w.heap.size ∧ ∀ i, i < m → w.cell? ⟨b, off + i, none⟩ = some (u64 (dig Y i))
theorem DigsAt.mono {w w' : World} {a : Option Addr} {m cap Y : Nat} (h : DigsAt w a m cap Y) (hb : Below w.heap.size w w') : DigsAt w' a m cap Y :=
  ⟨h.lt, h.fit, fun hm => by
    obtain ⟨b, off, e, hlt, hc⟩ := h.cells hm
    exact ⟨b, off, e, Nat.lt_of_lt_of_le hlt hb.size, fun i hi => (hb.cell (by exact hlt)).trans (hc i hi)⟩⟩
theorem DigsAt.zero (w : World) (a : Option Addr) (cap : Nat) : DigsAt w a 0 cap 0 := ⟨by simp, Nat.zero_le _, fun h => absurd rfl h⟩
theorem DigsAt.shrink {w : World} {a : Option Addr} {m cap Y : Nat} (h : DigsAt w a m cap Y) : DigsAt w a (nl Y) cap Y :=
  ⟨lt_nl Y, Nat.le_trans (nl_le h.lt) h.fit, fun hm => by
    have h1 := nl_le h.lt
    obtain ⟨b, off, e, hlt, hc⟩ := h.cells (by omega)
    exact ⟨b, off, e, hlt, fun i hi => hc i (by omega)⟩⟩
theorem Row.digs {w : World} {b off n v : Nat} (h : Row w b off n v) {cap : Nat} (hv : v < B ^ n) (hb : b < w.heap.size) (hc : n ≤ cap) : DigsAt w (some ⟨b, off, none⟩) n cap v :=
  ⟨hv, hc, fun _ => ⟨b, off, rfl, hb, fun i hi => by have := (h i (by simpa using hi)).1; rw [digs_get hi] at this; exact this⟩⟩
def Gives (w : World) (r : Nat) (e : Ending) (w' : World) : Prop :=
  ∃ a cap, e = .returned (.slice a (nl r) cap) ∧ DigsAt w' a (nl r) cap r ∧ Below w.heap.size w w'
def cmpN (x y : Nat) : Int := if x < y then -1 else if y < x then 1 else 0
theorem cmpN_lt {x y : Nat} (h : x < y) : cmpN x y = -1 := by unfold cmpN; simp [h]
theorem cmpN_gt {x y : Nat} (h : y < x) : cmpN x y = 1 := by unfold cmpN; rw [if_neg (by omega), if_pos h]
theorem cmpN_eq {x y : Nat} (h : x = y) : cmpN x y = 0 := by unfold cmpN; rw [if_neg (by omega), if_neg (by omega)]
theorem ret_int {k : IntKind} {a b : Int} (h : a = b) : Ending.returned (.int k a) = .returned (.int k b) := by rw [h]
theorem quiet_drawn {P : Program} {f : FuncId} {args : Array Value} {w : World} {n : Nat} {v : Value}
    (h : Calls P f args (w.drewN n) fun e w' => e = .returned v ∧ ∃ q, (w.drewN n).drewN q = w') : Calls P f args (w.drewN n) fun e w'' => e = .returned v ∧ ∃ m, w'' = w.drewN m :=
  h.mono fun _ _ ⟨he, q, hm⟩ => ⟨he, n + q, by rw [← hm, World.drewN_drewN]⟩
theorem quiet_at {P : Program} {f : FuncId} {args : Array Value} {W : World} {T : Nat → World} {v : Value}
    (h : Calls P f args W fun e w' => e = .returned v ∧ W = w') (hT : ∃ m, W = T m) : Calls P f args W fun e w'' => e = .returned v ∧ ∃ m, w'' = T m :=
  h.mono fun _ _ ⟨he, hm⟩ => ⟨he, by rw [← hm]; exact hT⟩
theorem below_drawn {B : Nat} {a w : World} (h : Below B a w) (q : Nat) : Below B a (w.drewN q) := ⟨h.os, h.tape, h.output, h.size, h.block⟩
theorem DigsAt.drawn {w : World} {a : Option Addr} {m cap Y : Nat} (h : DigsAt w a m cap Y) (q : Nat) : DigsAt (w.drewN q) a m cap Y := ⟨h.lt, h.fit, h.cells⟩
def mk (w : World) (n : Nat) : World := w.alloc (.cells (digs n 0 |>.map u64) 167)
theorem mk_size (w : World) (n : Nat) : (mk w n).heap.size = w.heap.size + 1 := by simp [mk]
theorem mk_below (w : World) (n : Nat) : Below w.heap.size w (mk w n) := (Below.refl _ _).alloc (Nat.le_refl _) _
theorem mk_row (w : World) (n : Nat) : Row (mk w n) w.heap.size 0 n 0 := by
  intro j hj
  have hj' : j < n := by simpa using hj
  rw [digs_get hj']
  unfold mk
  constructor
  · rw [Nat.zero_add, World.cell?_alloc_new]; simp [digs, hj']
  · exact World.frozen?_alloc_new ..
theorem info_u64 : (Tryz.prog.info? 167).map (fun i => (i.zero, i.size, i.bytes)) = some (some (.int .u64 0), 1, 8) := by kernel_rfl
theorem mk_run (c : Int) (n : Nat) (hc : c = n) (hn : n ≤ 1099511627776) (w : World) :
    (Instr.makeSlice 95 (.int .i64 c) (.int .i64 c)).run Tryz.prog w = .ok (.slice (some ⟨w.heap.size, 0, none⟩) n n) (mk w n) := by
  subst hc
  obtain ⟨i0, hi, hz0, hz1, hz2⟩ := info_parts info_u64
  have h := run_make (P := Tryz.prog) w 95 167 i0 (.int .u64 0) Tryz.underlying95 hi hz0 .i64 .i64 n n (by omega) (by omega) (by rw [hz2]; omega) (by omega)
  have e : madeCells (Value.int IntKind.u64 0).cells n = (digs n 0).map u64 := by
    apply Array.ext
    · simp [size_madeCells]
    · intro j h1 h2
      simp [madeCells, Value.cells, digs, dig_zero, Nat.mod_one]
  rw [Int.toNat_natCast, hz1, Nat.mul_one, e] at h
  exact h
theorem rowW_below {B : Nat} {a w : World} (h : Below B a w) {b off n v : Nat} (hb : B ≤ b) : Below B a (rowW w b off n v) :=
  ⟨h.os, h.tape, h.output, by rw [rowW_size]; exact h.size, fun k hk => by
    rw [← h.block k hk]
    unfold rowW putRow mapBlock
    simp only [Array.getElem?_modify]
    rw [if_neg (by omega)]⟩
theorem wrapU (n : Nat) : IntKind.u64.wrap (n : Int) = ((n % B : Nat) : Int) := by
  rw [IntKind.wrap_u64, B_eq]; omega
theorem two_lt {k : Nat} (h : k < 64) : 2 ^ k < B := by
  have : B = 2 ^ 64 := rfl
  rw [this]; exact Nat.pow_lt_pow_right (by omega) h
theorem wrap_two (k : Nat) : Value.int .u64 (IntKind.u64.wrap (2 ^ (k % 64))) = u64 (2 ^ (k % 64)) := by
  have e : (2 : Int) ^ (k % 64) = ((2 ^ (k % 64) : Nat) : Int) := by rw [Int.natCast_pow]; rfl
  rw [e, wrapU, Nat.mod_eq_of_lt (two_lt (Nat.mod_lt _ (by omega)))]
theorem Row.set {w : World} {b off n v i d u : Nat} (h : Row w b off n v) (hi : i < n) (hd : d < B) (hu : put v i d = u) :
    w.setCell ⟨b, off + i, none⟩ (u64 d) = rowW w b off n u ∧ Row (rowW w b off n u) b off n u := by
  constructor
  · have := rowW_set (w := w) (b := b) (off := off) (v := v) hi hd
    rw [h.self] at this; rw [this, hu]
  · exact holds_putRow _ _ _ _ _ _ h (by simp)
theorem Row.row {w : World} {b off n v : Nat} (u : Nat) (h : Row w b off n v) : Row (rowW w b off n u) b off n u := holds_putRow _ _ _ _ _ _ h (by simp)
theorem put_zero (i d : Nat) : put 0 i d = d * B ^ i := by simp [put, dig_zero]
theorem shr_cast (d s : Nat) : ((d : Int) / 2 ^ s) = ((d / 2 ^ s : Nat) : Int) := by rw [Int.natCast_ediv, Int.natCast_pow]; rfl
theorem shl_cast (d s : Nat) : ((d : Int) * 2 ^ s) = ((d * 2 ^ s : Nat) : Int) := by rw [Int.natCast_mul, Int.natCast_pow]; rfl
theorem or_cast (a b : Nat) (ha : a < B) (hb : b < B) : bits .or .u64 (a : Int) (b : Int) = ((a ||| b : Nat) : Int) := u64_or_nat a b ha hb
structure Env (w : World) : Prop where
  tz : Go.Proofs.TabAt 2 Lib.deBruijn64tab w
  tzlt : 2 < w.heap.size
theorem Env.mono {w w' : World} (h : Env w) (hb : Below w.heap.size w w') : Env w' :=
  ⟨fun j hj => (hb.cell (p := ⟨2, j, none⟩) h.tzlt).trans (h.tz j hj), Nat.lt_of_lt_of_le h.tzlt hb.size⟩
theorem Env.drawn {w : World} (h : Env w) (q : Nat) : Env (w.drewN q) := ⟨h.tz, h.tzlt⟩
theorem lead64 (x : Nat) (hx : x < B) (w : World) : Calls Tryz.prog 207 #[u64 x] w fun e w' => e = .returned (.int .i64 (64 - (bl x : Int))) ∧ w = w' :=
  (Tryz.bits_LeadingZeros64 x w (by omega) (by unfold B at hx; omega)).mono fun _ _ ⟨he, hw⟩ => ⟨by rw [he, Int.toNat_natCast, bitLen_eq hx], hw.symm⟩
theorem trail64 (x : Nat) (hx : x < B) (w : World) (h : Env w) : Calls Tryz.prog 206 #[u64 x] w fun e w' => e = .returned (.int .i64 (Lib.ctz 64 x : Int)) ∧ w = w' :=
  (Tryz.bits_TrailingZeros64 x hx w fun _ => h.tz).mono fun _ _ ⟨he, hw⟩ => ⟨he, hw.symm⟩
theorem mul64 (x y : Nat) (hx : x < B) (hy : y < B) (w : World) : Calls Tryz.prog 191 #[u64 x, u64 y] w fun e w' => e = .returned (.tuple #[u64 (x * y / B), u64 (x * y % B)]) ∧ w = w' :=
  (Tryz.bits_Mul64 x y hx hy w).mono fun _ _ ⟨he, hw⟩ => ⟨he, hw.symm⟩
end Go.Proofs.YtlncagdekfjinaaGreatDoor
