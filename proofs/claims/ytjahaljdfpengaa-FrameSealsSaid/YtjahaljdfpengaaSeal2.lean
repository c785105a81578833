/- Blocks: Seal of a frame with an error; numbers that are read out of bytes. -/
import Derived.Test.YtjahaljdfpengaaAwake
namespace Go.Proofs.Ytjahaljdfpengaa
open Go.RowKit

theorem valid_no (st lo li nu : Int) (w : World) (h : ¬ KeyOk st lo li nu) :
    Calls Try.prog 68 #[keyV st lo li nu] w fun e w' => e = .returned (.bool false) ∧ Below w.heap.size w w' := by
  by_cases ha : 0 ≤ st ∧ st ≤ 65535
  · by_cases hb : 0 ≤ lo ∧ lo ≤ 255
    · by_cases hc : 0 ≤ li ∧ li ≤ 255
      · have hd : ¬ (0 ≤ nu ∧ nu ≤ 4294967295) := fun hd => h ⟨ha, hb, hc, hd⟩
        clear h
        go_enter Try.func68, Try.ntmps68
        go_wp2_with fail
        refine (upTo_yes _ _ _ ha.1 ha.2).mono ?_
        rintro e w' ⟨rfl, rfl⟩
        go_wp2_with fail
        refine (upTo_yes _ _ _ hb.1 hb.2).mono ?_
        rintro e w' ⟨rfl, rfl⟩
        go_wp2_with fail
        refine (upTo_yes _ _ _ hc.1 hc.2).mono ?_
        rintro e w' ⟨rfl, rfl⟩
        go_wp2_with fail
        refine (upTo_no _ _ _ hd).mono ?_
        rintro e w' ⟨rfl, rfl⟩
        go_wp2
        go_ret
        exact ⟨rfl, (Below.refl _ _).alloc (Nat.le_refl _) _⟩
      · clear h
        go_enter Try.func68, Try.ntmps68
        go_wp2_with fail
        refine (upTo_yes _ _ _ ha.1 ha.2).mono ?_
        rintro e w' ⟨rfl, rfl⟩
        go_wp2_with fail
        refine (upTo_yes _ _ _ hb.1 hb.2).mono ?_
        rintro e w' ⟨rfl, rfl⟩
        go_wp2_with fail
        refine (upTo_no _ _ _ hc).mono ?_
        rintro e w' ⟨rfl, rfl⟩
        go_wp2
        go_ret
        exact ⟨rfl, (Below.refl _ _).alloc (Nat.le_refl _) _⟩
    · clear h
      go_enter Try.func68, Try.ntmps68
      go_wp2_with fail
      refine (upTo_yes _ _ _ ha.1 ha.2).mono ?_
      rintro e w' ⟨rfl, rfl⟩
      go_wp2_with fail
      refine (upTo_no _ _ _ hb).mono ?_
      rintro e w' ⟨rfl, rfl⟩
      go_wp2
      go_ret
      exact ⟨rfl, (Below.refl _ _).alloc (Nat.le_refl _) _⟩
  · clear h
    go_enter Try.func68, Try.ntmps68
    go_wp2_with fail
    refine (upTo_no _ _ _ ha).mono ?_
    rintro e w' ⟨rfl, rfl⟩
    go_wp2
    go_ret
    exact ⟨rfl, (Below.refl _ _).alloc (Nat.le_refl _) _⟩

/-- The number of which l are the bytes, the least one first. -/
def num : List Nat → Nat
  | [] => 0
  | x :: l => x + 256 * num l
theorem num_lt : ∀ (l : List Nat), (∀ x ∈ l, x < 256) → num l < 256 ^ l.length
  | [], _ => by simp [num]
  | x :: l, h => by
    have h1 := num_lt l fun y hy => h y (by simp [hy])
    have h2 := h x (by simp)
    simp only [num, List.length_cons, Nat.pow_succ]
    omega
theorem num_snoc : ∀ (l : List Nat) (x : Nat), num (l ++ [x]) = num l + x * 256 ^ l.length
  | [], x => by simp [num]
  | y :: l, x => by
    have h := num_snoc l x
    simp only [List.cons_append, num, h, List.length_cons, Nat.pow_succ]
    grind
theorem num_le : ∀ (c n : Nat), num (le c n) = n % 256 ^ c
  | 0, n => by simp [num, le, Nat.mod_one]
  | c + 1, n => by
    simp only [num, le, num_le c (n / 256)]
    rw [Nat.pow_succ, Nat.mul_comm (256 ^ c) 256, Nat.mod_mul]
theorem le_num : ∀ (l : List Nat), (∀ x ∈ l, x < 256) → le l.length (num l) = l
  | [], _ => rfl
  | x :: l, h => by
    have h2 := h x (by simp)
    have e1 : num (x :: l) % 256 = x := by simp only [num]; omega
    have e2 : num (x :: l) / 256 = num l := by simp only [num]; omega
    simp only [List.length_cons, le, e1, e2, le_num l fun y hy => h y (by simp [hy])]
/-- A byte put in behind what there is. -/
theorem or_byte (a x k : Nat) (ha : a < 256 ^ k) : a ||| (x * 2 ^ (8 * k)) = a + x * 256 ^ k := by
  have e : 256 ^ k = 2 ^ (8 * k) := by rw [Nat.pow_mul]
  rw [e] at ha ⊢
  have := Nat.two_pow_add_eq_or_of_lt ha x
  rw [Nat.mul_comm x, Nat.or_comm, ← this]
  omega

/-- What the walk's shift and or make of a byte. -/
theorem get_step (a x k : Nat) (hk : k < 8) (ha : a < 256 ^ k) (hx : x < 256) :
    bits .or .u64 (a : Int) (IntKind.u64.wrap ((x : Int) * 2 ^ (8 * k))) = ((a + x * 256 ^ k : Nat) : Int) := by
  have e : (256 : Nat) ^ k = 2 ^ (8 * k) := by rw [Nat.pow_mul]
  have h1 : x * 2 ^ (8 * k) < 18446744073709551616 := by
    have h2 : 2 ^ (8 * k) ≤ 2 ^ 56 := Nat.pow_le_pow_right (by decide) (by omega)
    calc x * 2 ^ (8 * k) ≤ x * 2 ^ 56 := Nat.mul_le_mul_left _ h2
      _ < 18446744073709551616 := by omega
  have h3 : a < 18446744073709551616 := by
    have h2 : 256 ^ k ≤ 256 ^ 7 := Nat.pow_le_pow_right (by decide) (by omega)
    have h4 : (256 : Nat) ^ 7 = 72057594037927936 := by decide
    omega
  have h5 : ((x : Int) * 2 ^ (8 * k)) = ((x * 2 ^ (8 * k) : Nat) : Int) := by rw [Int.natCast_mul, Int.natCast_pow]; rfl
  rw [h5, wrapN, Nat.mod_eq_of_lt h1, u64_or_nat a _ h3 h1, or_byte a x k ha]

theorem num_take (l : List Nat) (k : Nat) (hk : k < l.length) : num (l.take (k + 1)) = num (l.take k) + l.getD k 0 * 256 ^ k := by
  have e : l.getD k 0 = l[k] := by simp [List.getD, hk]
  rw [List.take_succ_eq_append_getElem hk, num_snoc, e, List.length_take, Nat.min_eq_left (by omega)]

set_option maxRecDepth 100000 in
theorem get_any (a : Option Addr) (l : List Nat) (cap n : Nat) (hn : l.length = n) (h8 : n ≤ 8) (w : World) (hb : BytesAt w a l) :
    Calls Try.prog 77 #[.slice a n cap] w fun e w' => e = .returned (.int .u64 (num l : Int)) ∧ w = w' := by
  have HN := Lib.hid hn
  clear hn
  go_enter Try.func77, Try.ntmps77
  go_wp2
  go_loop [3, 8] (fun h i => ∃ k : Nat, k ≤ n ∧ i = .int .i64 k ∧ h = .int .u64 (num (l.take k) : Int)) (fun _ i => n - (intOf i).toNat)
  case atStart => exact ⟨0, Nat.zero_le _, rfl, rfl⟩
  case round =>
    obtain ⟨k, hk, rfl, rfl⟩ := hrel
    by_cases hlt : k < n
    · have hkl : k < l.length := by rw [HN.out]; exact hlt
      obtain ⟨ad, rfl, hlt2, hc⟩ := hb.2 (by omega)
      have hx : l.getD k 0 < 256 := hb.1 _ (by rw [List.getD, List.getElem?_eq_getElem hkl]; simp)
      have ha : num (l.take k) < 256 ^ k := by
        have := num_lt (l.take k) fun x hx => hb.1 x (List.mem_of_mem_take hx)
        rwa [List.length_take, Nat.min_eq_left (by omega)] at this
      have H := Lib.hid (num_take l k hkl)
      have hcell := hc k hkl
      clear hc
      generalize num (l.take k) = h at *
      generalize l.getD k 0 = x at *
      have HA := Lib.hid ha
      clear ha
      go_wp2
      go_round
      case rel => exact ⟨k + 1, by omega, by go_num, by rw [H.out, get_step h x k (by omega) HA.out hx]⟩
      case measure => simp [intOf]; omega
    · go_wp2
      go_ret
      exact ⟨ret_int (by rw [List.take_of_length_le (by rw [HN.out]; omega)]), rfl⟩

/-- 40 bytes that are 0. -/
def z40 : List Value := List.replicate 40 (.int .u8 0)
theorem z40_len : z40.length = 40 := by simp [z40]
theorem z40_info' : (Try.prog.info? 27).map (·.size) = some z40.length := by
  have h : (Try.prog.info? 27).map (·.size) = some 40 := by kernel_rfl
  rw [z40_len]
  exact h
/-- What is behind a frame with an error. -/
theorem refused {w w2 X : World} (vs : List Value) (hX : w2.setCells (w.heap.size + 1) 0 vs = X) (hz : vs = z40) (hb : Below w.heap.size w w2) (hth : w2.there (w.heap.size + 1) 0 40) :
    (loadVar 27 ⟨w.heap.size + 1, 0, none⟩).run Try.prog X = .ok (.agg z40.toArray) X ∧ Below w.heap.size w X := by
  subst hz hX
  exact ⟨run_loadVar_mid (P := Try.prog) _ (w.heap.size + 1) 0 27 z40 _ (World.rangeAt_setCells_same _ _ _ _ (by rw [z40_len]; exact hth)) Try.underlying27 rfl z40_info', Below.setCells' _ 0 hb (by omega)⟩

set_option maxHeartbeats 1000000 in
set_option maxRecDepth 100000 in
theorem seal_no (st lo li nu cl : Int) (v0 v1 v2 v3 : Nat) (w : World) (h : ¬ (KeyOk st lo li nu ∧ 0 ≤ cl ∧ cl ≤ 1099511627776)) :
    Calls Try.prog 13 #[.agg #[.int .i64 st, .int .i64 lo, .int .i64 li, .int .i64 nu, .int .i64 cl, .float .f32 v0, .float .f32 v1, .float .f32 v2, .float .f32 v3]] w fun e w' =>
      e = .returned (.tuple #[.agg z40.toArray, .int .i64 1]) ∧ Below w.heap.size w w' := by
  by_cases hK : KeyOk st lo li nu
  · have hc : ¬ (0 ≤ cl ∧ cl ≤ 1099511627776) := fun hc => h ⟨hK, hc⟩
    clear h
    go_enter Try.func13, Try.ntmps13
    go_wp2_with fail
    refine (fkey_any st lo li nu cl v0 v1 v2 v3 _).mono ?_
    rintro e w1 ⟨rfl, hb1⟩
    go_wp2_with fail
    refine (valid_yes st lo li nu _ hK).mono ?_
    rintro e w2 ⟨rfl, hb2⟩
    have hb := hb1.trans (hb2.mono hb1.size)
    clear hb1 hb2
    have hBox : Box w2 w.heap.size 25 #[.int .i64 st, .int .i64 lo, .int .i64 li, .int .i64 nu, .int .i64 cl, .float .f32 v0, .float .f32 v1, .float .f32 v2, .float .f32 v3] := by
      refine Box.below ?_ hb (by simp; omega)
      exact (Box.new w _ _).below ((Below.refl _ _).alloc (Nat.le_refl _) _) (by simp)
    have q := hBox.at_ (i := 4) rfl
    have hR : Box w2 (w.heap.size + 1) 27 (Array.replicate 40 (.int .u8 0)) := by
      refine Box.below ?_ hb (by simp)
      exact heap_alloc2_new w _ _
    go_wp2_with fail
    refine (upTo_no _ _ _ hc).mono ?_
    rintro e w' ⟨rfl, rfl⟩
    clear q hBox
    have hth : w2.there (w.heap.size + 1) 0 40 := fun j hj => by
      rw [hR.at_ (i := 0 + j) (v := .int .u8 0) (by rw [Array.getElem?_replicate, if_pos (by omega)]), hR.free]
      exact ⟨rfl, rfl⟩
    have hbb : Below w.heap.size w w2 := (((Below.refl _ _).alloc (Nat.le_refl _) _).alloc (by simp) _).trans (hb.mono (by simp; omega))
    have HTh := Lib.hid hth
    clear hth hR hb
    go_wp2_with (refine wpList_store_mid rfl 27 _ _ rfl (w.heap.size + 1) 0 _ rfl rfl ?c1 ?c2 ?c3 ?_; rotate_left 3; generalize hX : World.setCells _ _ _ _ = X)
    case c1 => exact HTh.out
    case c2 => kernel_rfl
    case c3 => kernel_rfl
    obtain ⟨hload, hend⟩ := refused _ hX rfl hbb HTh.out
    exact bodyPost_ret (v := .tuple #[.agg z40.toArray, .int .i64 1]) (results_cell_slot Try.results13 _ _ _ _ rfl hload) rfl ⟨rfl, hend⟩
  · clear h
    go_enter Try.func13, Try.ntmps13
    go_wp2_with fail
    refine (fkey_any st lo li nu cl v0 v1 v2 v3 _).mono ?_
    rintro e w1 ⟨rfl, hb1⟩
    go_wp2_with fail
    refine (valid_no st lo li nu _ hK).mono ?_
    rintro e w2 ⟨rfl, hb2⟩
    have hb := hb1.trans (hb2.mono hb1.size)
    clear hb1 hb2
    have hR : Box w2 (w.heap.size + 1) 27 (Array.replicate 40 (.int .u8 0)) := by
      refine Box.below ?_ hb (by simp)
      exact heap_alloc2_new w _ _
    have hth : w2.there (w.heap.size + 1) 0 40 := fun j hj => by
      rw [hR.at_ (i := 0 + j) (v := .int .u8 0) (by rw [Array.getElem?_replicate, if_pos (by omega)]), hR.free]
      exact ⟨rfl, rfl⟩
    have hbb : Below w.heap.size w w2 := (((Below.refl _ _).alloc (Nat.le_refl _) _).alloc (by simp) _).trans (hb.mono (by simp; omega))
    have HTh := Lib.hid hth
    clear hth hR hb
    go_wp2_with (refine wpList_store_mid rfl 27 _ _ rfl (w.heap.size + 1) 0 _ rfl rfl ?c1 ?c2 ?c3 ?_; rotate_left 3; generalize hX : World.setCells _ _ _ _ = X)
    case c1 => exact HTh.out
    case c2 => kernel_rfl
    case c3 => kernel_rfl
    obtain ⟨hload, hend⟩ := refused _ hX rfl hbb HTh.out
    exact bodyPost_ret (v := .tuple #[.agg z40.toArray, .int .i64 1]) (results_cell_slot Try.results13 _ _ _ _ rfl hload) rfl ⟨rfl, hend⟩
end Go.Proofs.Ytjahaljdfpengaa
