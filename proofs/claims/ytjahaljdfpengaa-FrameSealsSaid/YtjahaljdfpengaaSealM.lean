/- Blocks: what their bytes say: with one byte replaced a digest is another one; a frame out of its block; what is not a number. Plain mathematics. -/
import Derived.Test.YtjahaljdfpengaaSeal2
namespace Go.Proofs.Ytjahaljdfpengaa
open Go.RowKit

theorem rot_sum (x : Nat) (h : x < 18446744073709551616) : rot x = x % 34359738368 * 536870912 + x / 34359738368 := by
  unfold rot
  have e : x * 536870912 % 18446744073709551616 = (x % 34359738368) * 2 ^ 29 := by omega
  rw [e]
  have := Nat.two_pow_add_eq_or_of_lt (i := 29) (b := x / 34359738368) (by omega) (x % 34359738368)
  rw [Nat.mul_comm (x % 34359738368), ← this]
theorem rot_inj (x y : Nat) (hx : x < 18446744073709551616) (hy : y < 18446744073709551616) (h : rot x = rot y) : x = y := by
  rw [rot_sum x hx, rot_sum y hy] at h
  omega
theorem mul_back (z : Nat) (hz : z < 18446744073709551616) : z * fac % 18446744073709551616 * 6415128727920758069 % 18446744073709551616 = z := by
  unfold fac
  omega
theorem fac_inj (x y : Nat) (hx : x < 18446744073709551616) (hy : y < 18446744073709551616) (h : x * fac % 18446744073709551616 = y * fac % 18446744073709551616) : x = y := by
  rw [← mul_back x hx, ← mul_back y hy, h]

theorem xor_lt64 {a b : Nat} (ha : a < 18446744073709551616) (hb : b < 18446744073709551616) : a ^^^ b < 18446744073709551616 := Nat.xor_lt_two_pow (n := 64) ha hb
theorem xor_cancel (a b c : Nat) (h : a ^^^ b = a ^^^ c) : b = c := by
  have := congrArg (a ^^^ ·) h
  simpa [← Nat.xor_assoc] using this
theorem xor_cancel' (a b c : Nat) (h : b ^^^ a = c ^^^ a) : b = c := xor_cancel a b c (by rw [Nat.xor_comm a b, Nat.xor_comm a c, h])
theorem stp_core (a b : Nat) (ha : a < 18446744073709551616) (hb : b < 18446744073709551616) (h : rot (a * fac % 18446744073709551616) = rot (b * fac % 18446744073709551616)) : a = b :=
  fac_inj a b ha hb (rot_inj _ _ (Nat.mod_lt _ (by decide)) (Nat.mod_lt _ (by decide)) h)
theorem stp_inj (h h' x : Nat) (hh : h < 18446744073709551616) (hh' : h' < 18446744073709551616) (hx : x < 18446744073709551616) (e : stp h x = stp h' x) : h = h' :=
  xor_cancel' x h h' (stp_core _ _ (xor_lt64 hh hx) (xor_lt64 hh' hx) e)
theorem stp_inj' (h x y : Nat) (hh : h < 18446744073709551616) (hx : x < 18446744073709551616) (hy : y < 18446744073709551616) (e : stp h x = stp h y) : x = y :=
  xor_cancel h x y (stp_core _ _ (xor_lt64 hh hx) (xor_lt64 hh hy) e)
theorem dg_cons (h x : Nat) (l : List Nat) : dg h (x :: l) = dg (stp h x) l := rfl
theorem dg_inj (l : List Nat) (hl : ∀ x ∈ l, x < 256) : ∀ h h' : Nat, h < 18446744073709551616 → h' < 18446744073709551616 → dg h l = dg h' l → h = h' := by
  induction l with
  | nil => intro h h' _ _ e; exact e
  | cons x l ih =>
    intro h h' hh hh' e
    rw [dg_cons, dg_cons] at e
    have := ih (fun y hy => hl y (by simp [hy])) _ _ (stp_lt _ _) (stp_lt _ _) e
    exact stp_inj h h' x hh hh' (by have := hl x (by simp); omega) this
/-- With another byte in one place the digest is another one. -/
theorem dg_set (l : List Nat) (hl : ∀ x ∈ l, x < 256) : ∀ (h k x : Nat), h < 18446744073709551616 → k < l.length → x < 256 → dg h (l.set k x) = dg h l → l[k]? = some x := by
  induction l with
  | nil => intro h k x _ hk; exact absurd hk (Nat.not_lt_zero _)
  | cons y l ih =>
    intro h k x hh hk hx e
    cases k with
    | zero =>
      rw [List.set_cons_zero, dg_cons, dg_cons] at e
      have := dg_inj l (fun z hz => hl z (by simp [hz])) _ _ (stp_lt _ _) (stp_lt _ _) e
      have hy := hl y (by simp)
      have := stp_inj' h x y hh (by omega) (by omega) this
      rw [this]; rfl
    | succ k =>
      rw [List.set_cons_succ, dg_cons, dg_cons] at e
      exact ih (fun z hz => hl z (by simp [hz])) _ k x (stp_lt _ _) (by simpa using hk) hx e

/-- The bits of what is not a number. -/
def nanB (v : Nat) : Bool := decide (2139095040 < v % 2147483648)
theorem order_self (v : Nat) : (FloatKind.f32.format.order v v != some Ordering.eq) = nanB v := by
  unfold nanB
  show (Ieee.Datum.order (Ieee.single.read v) (Ieee.single.read v) != some Ordering.eq) = _
  have s1 : Ieee.single.signWeight = 2147483648 := by decide
  have s2 : Ieee.single.binade = 8388608 := by decide
  have s3 : Ieee.single.infRung = 2139095040 := by decide
  unfold Ieee.Format.read
  rw [s1, s2, s3]
  have hc : ∀ a : Int, compare a a = Ordering.eq := fun a => by simp [compare, compareOfLessAndEq]
  have hcn : ∀ a : Nat, compare a a = Ordering.eq := fun a => by simp
  by_cases h1 : v % 2147483648 < 8388608
  · simp only [h1, if_true, Ieee.Datum.order, hc]
    simp; omega
  · by_cases h2 : v % 2147483648 < 2139095040
    · simp only [h1, h2, if_true, if_false, Ieee.Datum.order, hc]
      simp; omega
    · by_cases h3 : v % 2147483648 = 2139095040
      · simp only [h3, if_true, Ieee.Datum.order]
        simp
      · simp only [h1, h2, h3, if_false, Ieee.Datum.order]
        rw [decide_eq_true (by omega)]
        rfl
theorem vb_eq (v : Nat) : vb v = if nanB v = true then 2143289344 else v := by unfold vb; rw [order_self]
theorem and_hi (v : Nat) : v &&& 2139095040 = v / 8388608 % 256 * 8388608 := by
  have e1 : (2139095040 : Nat) = 255 * 2 ^ 23 := by decide
  have e2 : (8388608 : Nat) = 2 ^ 23 := by decide
  have e3 : (256 : Nat) = 2 ^ 8 := by decide
  have e4 : (255 : Nat) = 2 ^ 8 - 1 := by decide
  apply Nat.eq_of_testBit_eq
  intro i
  rw [Nat.testBit_and, e1, e2, Nat.testBit_mul_two_pow, Nat.testBit_mul_two_pow]
  by_cases hi : 23 ≤ i
  · simp only [hi, decide_true, Bool.true_and]
    rw [e4, Nat.testBit_two_pow_sub_one, e3, Nat.testBit_mod_two_pow, Nat.testBit_div_two_pow, Nat.sub_add_cancel hi, Bool.and_comm]
  · simp [hi]
theorem and_lo (v : Nat) : v &&& 8388607 = v % 8388608 := Nat.and_two_pow_sub_one_eq_mod v 23
/-- The reference's test. -/
theorem nan_bits (v : Nat) : nanB v = (decide (v &&& 2139095040 = 2139095040) && !decide (v &&& 8388607 = 0)) := by
  rw [and_hi, and_lo, Bool.eq_iff_iff]
  unfold nanB
  simp
  omega
theorem block_lt (f : Fr) : ∀ x ∈ block f, x < 256 := fun x hx => by
  rcases List.mem_append.1 hx with hx | hx
  · exact body_lt f x hx
  · exact le_lt _ _ x hx
/-- m bytes of a list, from the i-th on. -/
def cut (l : List Nat) (i m : Nat) : List Nat := (l.drop i).take m
theorem cut_len {l : List Nat} {i m : Nat} (h : i + m ≤ l.length) : (cut l i m).length = m := by simp [cut]; omega
theorem cut_lt {l : List Nat} (hl : ∀ x ∈ l, x < 256) (i m : Nat) : ∀ x ∈ cut l i m, x < 256 := fun x hx => hl x (List.mem_of_mem_drop (List.mem_of_mem_take hx))
/-- The number in m bytes of a list. -/
def nat (l : List Nat) (i m : Nat) : Nat := num (cut l i m)
theorem nat_lt {l : List Nat} (hl : ∀ x ∈ l, x < 256) (i m : Nat) : nat l i m < 256 ^ m := by
  have h := num_lt _ (cut_lt hl i m)
  have h2 : (cut l i m).length ≤ m := by simp [cut]; omega
  exact Nat.lt_of_lt_of_le h (Nat.pow_le_pow_right (by decide) h2)
theorem le_nat {l : List Nat} (hl : ∀ x ∈ l, x < 256) {i m : Nat} (h : i + m ≤ l.length) : le m (nat l i m) = cut l i m := by
  have := le_num _ (cut_lt hl i m)
  rwa [cut_len h] at this
/-- The frame with the numbers of a block. -/
def readF (l : List Nat) : Fr := ⟨nat l 0 2, nat l 2 1, nat l 3 1, nat l 4 4, nat l 8 6, nat l 16 4, nat l 20 4, nat l 24 4, nat l 28 4⟩
theorem readF_small {l : List Nat} (hl : ∀ x ∈ l, x < 256) : (readF l).st ≤ 65535 ∧ (readF l).lo ≤ 255 ∧ (readF l).li ≤ 255 ∧ (readF l).nu ≤ 4294967295 ∧ (readF l).cl < 281474976710656 ∧
    (readF l).v0 < 4294967296 ∧ (readF l).v1 < 4294967296 ∧ (readF l).v2 < 4294967296 ∧ (readF l).v3 < 4294967296 := by
  have a := nat_lt hl 0 2
  have b := nat_lt hl 2 1
  have c := nat_lt hl 3 1
  have d := nat_lt hl 4 4
  have e := nat_lt hl 8 6
  have f := nat_lt hl 16 4
  have g := nat_lt hl 20 4
  have h := nat_lt hl 24 4
  have i := nat_lt hl 28 4
  simp only [readF]
  omega
/-- The same frame with one form of what is not a number. -/
def norm (f : Fr) : Fr := { f with v0 := vb f.v0, v1 := vb f.v1, v2 := vb f.v2, v3 := vb f.v3 }
theorem vb_vb (v : Nat) : vb (vb v) = vb v := by
  rw [vb_eq v]
  split
  · decide
  · rename_i h
    rw [vb_eq, if_neg h]
theorem body_norm (f : Fr) : body (norm f) = body f := by simp only [body, norm, vb_vb]
theorem block_norm (f : Fr) : block (norm f) = block f := by rw [block, block, body_norm]
theorem norm_ok {f : Fr} (h : FrOk f) : FrOk (norm f) := ⟨h.st, h.lo, h.li, h.nu, h.cl, vb_lt h.v0, vb_lt h.v1, vb_lt h.v2, vb_lt h.v3⟩

/-- What Open answers: the frame, and the error. -/
def zeroF : Fr := ⟨0, 0, 0, 0, 0, 0, 0, 0, 0⟩
def sumOk (l : List Nat) : Prop := nat l 32 8 = dg 11 (l.take 32)
instance (l : List Nat) : Decidable (sumOk l) := inferInstanceAs (Decidable (_ = _))
def openOk (l : List Nat) : Prop := sumOk l ∧ (readF l).cl ≤ 1099511627776 ∧ block (readF l) = l
instance (l : List Nat) : Decidable (openOk l) := inferInstanceAs (Decidable (_ ∧ _ ∧ _))
def openE (l : List Nat) : Int := if sumOk l then (if openOk l then 0 else 2) else 20
def openF (l : List Nat) : Fr := if openOk l then readF l else zeroF

theorem cut_append (p q r : List Nat) (i m : Nat) (hp : p.length = i) (hq : q.length = m) : cut (p ++ q ++ r) i m = q := by
  subst hp hq
  unfold cut
  rw [List.append_assoc, List.drop_left, List.take_left]
theorem nat_at (p r : List Nat) (i m n : Nat) (hp : p.length = i) (hn : n < 256 ^ m) : nat (p ++ le m n ++ r) i m = n := by
  unfold nat
  rw [cut_append p (le m n) r i m hp (le_len _ _), num_le, Nat.mod_eq_of_lt hn]

theorem readF_block {f : Fr} (h : FrOk f) : readF (block f) = norm f := by
  obtain ⟨h1, h2, h3, h4, h5, h6, h7, h8, h9⟩ := norm_ok h
  have e : ∀ i m n p r, block f = p ++ le m n ++ r → p.length = i → n < 256 ^ m → nat (block f) i m = n := fun i m n p r e hp hn => by rw [e, nat_at p r i m n hp hn]
  have hb : block f = [] ++ le 2 f.st ++ le 1 f.lo ++ le 1 f.li ++ le 4 f.nu ++ le 6 f.cl ++ le 2 0 ++ le 4 (vb f.v0) ++ le 4 (vb f.v1) ++ le 4 (vb f.v2) ++ le 4 (vb f.v3) ++ le 8 (dg 11 (body f)) := rfl
  have a := e 0 2 f.st [] (le 1 f.lo ++ le 1 f.li ++ le 4 f.nu ++ le 6 f.cl ++ le 2 0 ++ le 4 (vb f.v0) ++ le 4 (vb f.v1) ++ le 4 (vb f.v2) ++ le 4 (vb f.v3) ++ le 8 (dg 11 (body f))) (by rw [hb]; simp only [List.append_assoc]) rfl (by have : f.st ≤ 65535 := h1; omega)
  have b := e 2 1 f.lo (le 2 f.st) (le 1 f.li ++ le 4 f.nu ++ le 6 f.cl ++ le 2 0 ++ le 4 (vb f.v0) ++ le 4 (vb f.v1) ++ le 4 (vb f.v2) ++ le 4 (vb f.v3) ++ le 8 (dg 11 (body f))) (by rw [hb]; simp only [List.append_assoc, List.nil_append]) (by simp [le_len]) (by have : f.lo ≤ 255 := h2; omega)
  have c := e 3 1 f.li (le 2 f.st ++ le 1 f.lo) (le 4 f.nu ++ le 6 f.cl ++ le 2 0 ++ le 4 (vb f.v0) ++ le 4 (vb f.v1) ++ le 4 (vb f.v2) ++ le 4 (vb f.v3) ++ le 8 (dg 11 (body f))) (by rw [hb]; simp only [List.append_assoc, List.nil_append]) (by simp [le_len]) (by have : f.li ≤ 255 := h3; omega)
  have d := e 4 4 f.nu (le 2 f.st ++ le 1 f.lo ++ le 1 f.li) (le 6 f.cl ++ le 2 0 ++ le 4 (vb f.v0) ++ le 4 (vb f.v1) ++ le 4 (vb f.v2) ++ le 4 (vb f.v3) ++ le 8 (dg 11 (body f))) (by rw [hb]; simp only [List.append_assoc, List.nil_append]) (by simp [le_len]) (by have : f.nu ≤ 4294967295 := h4; omega)
  have c6 := e 8 6 f.cl (le 2 f.st ++ le 1 f.lo ++ le 1 f.li ++ le 4 f.nu) (le 2 0 ++ le 4 (vb f.v0) ++ le 4 (vb f.v1) ++ le 4 (vb f.v2) ++ le 4 (vb f.v3) ++ le 8 (dg 11 (body f))) (by rw [hb]; simp only [List.append_assoc, List.nil_append]) (by simp [le_len]) (by have : f.cl ≤ 1099511627776 := h5; omega)
  have g0 := e 16 4 (vb f.v0) (le 2 f.st ++ le 1 f.lo ++ le 1 f.li ++ le 4 f.nu ++ le 6 f.cl ++ le 2 0) (le 4 (vb f.v1) ++ le 4 (vb f.v2) ++ le 4 (vb f.v3) ++ le 8 (dg 11 (body f))) (by rw [hb]; simp only [List.append_assoc, List.nil_append]) (by simp [le_len]) (by have : vb f.v0 < 4294967296 := h6; omega)
  have g1 := e 20 4 (vb f.v1) (le 2 f.st ++ le 1 f.lo ++ le 1 f.li ++ le 4 f.nu ++ le 6 f.cl ++ le 2 0 ++ le 4 (vb f.v0)) (le 4 (vb f.v2) ++ le 4 (vb f.v3) ++ le 8 (dg 11 (body f))) (by rw [hb]; simp only [List.append_assoc, List.nil_append]) (by simp [le_len]) (by have : vb f.v1 < 4294967296 := h7; omega)
  have g2 := e 24 4 (vb f.v2) (le 2 f.st ++ le 1 f.lo ++ le 1 f.li ++ le 4 f.nu ++ le 6 f.cl ++ le 2 0 ++ le 4 (vb f.v0) ++ le 4 (vb f.v1)) (le 4 (vb f.v3) ++ le 8 (dg 11 (body f))) (by rw [hb]; simp only [List.append_assoc, List.nil_append]) (by simp [le_len]) (by have : vb f.v2 < 4294967296 := h8; omega)
  have g3 := e 28 4 (vb f.v3) (le 2 f.st ++ le 1 f.lo ++ le 1 f.li ++ le 4 f.nu ++ le 6 f.cl ++ le 2 0 ++ le 4 (vb f.v0) ++ le 4 (vb f.v1) ++ le 4 (vb f.v2)) (le 8 (dg 11 (body f))) (by rw [hb]; simp only [List.append_assoc, List.nil_append]) (by simp [le_len]) (by have : vb f.v3 < 4294967296 := h9; omega)
  unfold readF norm
  rw [a, b, c, d, c6, g0, g1, g2, g3]
theorem sum_block (f : Fr) : sumOk (block f) := by
  have h1 : (block f).take 32 = body f := by unfold block; rw [← body_len f, List.take_left]
  have h2 : nat (block f) 32 8 = dg 11 (body f) := by
    have := nat_at (body f) [] 32 8 (dg 11 (body f)) (body_len f) (by have := dg_lt 11 (by decide) (body f); omega)
    rwa [List.append_nil] at this
  unfold sumOk
  rw [h1, h2]
theorem open_block {f : Fr} (h : FrOk f) : openE (block f) = 0 ∧ openF (block f) = norm f := by
  have hs := sum_block f
  have ho : openOk (block f) := ⟨hs, by rw [readF_block h]; exact h.cl, by rw [readF_block h, block_norm]⟩
  exact ⟨by unfold openE; rw [if_pos hs, if_pos ho], by unfold openF; rw [if_pos ho, readF_block h]⟩
/-- With another byte the digest does not fit. -/
theorem sum_set (f : Fr) (k x : Nat) (hk : k < 40) (hx : x < 256) (hne : (block f)[k]? ≠ some x) : ¬ sumOk ((block f).set k x) := by
  intro hs
  have hl := body_len f
  have hbl := body_lt f
  have hd := dg_lt 11 (by decide) (body f)
  unfold sumOk nat cut at hs
  unfold block at hs hne
  by_cases h : k < 32
  · rw [List.set_append_left _ _ (by omega)] at hs
    have e1 : ((body f).set k x ++ le 8 (dg 11 (body f))).take 32 = (body f).set k x := List.take_left' (by simp [hl])
    have e2 : ((body f).set k x ++ le 8 (dg 11 (body f))).drop 32 = le 8 (dg 11 (body f)) := List.drop_left' (by simp [hl])
    rw [e1, e2, List.take_of_length_le (by simp [le_len]), num_le, Nat.mod_eq_of_lt (by omega)] at hs
    have := dg_set (body f) hbl 11 k x (by decide) (by omega) hx hs.symm
    rw [List.getElem?_append_left (by omega)] at hne
    exact hne this
  · rw [List.set_append_right _ _ (by omega), hl] at hs
    have e1 : (body f ++ (le 8 (dg 11 (body f))).set (k - 32) x).take 32 = body f := List.take_left' hl
    have e2 : (body f ++ (le 8 (dg 11 (body f))).set (k - 32) x).drop 32 = (le 8 (dg 11 (body f))).set (k - 32) x := List.drop_left' hl
    rw [e1, e2, List.take_of_length_le (by simp [le_len])] at hs
    have hlt : ∀ y ∈ (le 8 (dg 11 (body f))).set (k - 32) x, y < 256 := fun y hy => by
      rcases List.mem_or_eq_of_mem_set hy with h | rfl
      · exact le_lt _ _ y h
      · exact hx
    have e3 := le_num _ hlt
    rw [List.length_set, le_len, hs] at e3
    have e4 := congrArg (fun l : List Nat => l[k - 32]?) e3
    rw [List.getElem?_set_self (by rw [le_len]; omega)] at e4
    rw [List.getElem?_append_right (by omega), hl] at hne
    exact hne e4

/-- The bytes that the reference makes of a frame. -/
def body' (f : Fr) : List Nat :=
  [] ++ le 2 f.st ++ le 1 f.lo ++ le 1 f.li ++ le 4 f.nu ++ le 6 f.cl ++ le 2 0 ++ le 4 f.v0 ++ le 4 f.v1 ++ le 4 f.v2 ++ le 4 f.v3
def block' (f : Fr) : List Nat := body' f ++ le 8 (dg 11 (body' f))
theorem block'_norm (f : Fr) : block' (norm f) = block f := rfl
/-- Each value has the one form. -/
def formed (f : Fr) : Prop := vb f.v0 = f.v0 ∧ vb f.v1 = f.v1 ∧ vb f.v2 = f.v2 ∧ vb f.v3 = f.v3
theorem formed_norm {f : Fr} (h : formed f) : norm f = f := by
  obtain ⟨a, b, c, d⟩ := h
  unfold norm
  rw [a, b, c, d]
theorem block'_formed {f : Fr} (h : formed f) : block' f = block f := by rw [← block'_norm, formed_norm h]
/-- A right block has values with the one form. -/
theorem open_formed {l : List Nat} (hl : ∀ x ∈ l, x < 256) (hc : (readF l).cl ≤ 1099511627776) (hb : block (readF l) = l) : formed (readF l) := by
  obtain ⟨h1, h2, h3, h4, h5, h6, h7, h8, h9⟩ := readF_small hl
  have := readF_block (f := readF l) ⟨h1, h2, h3, h4, hc, h6, h7, h8, h9⟩
  rw [hb] at this
  have e : ∀ f : Fr, f = norm f → formed f := fun f h => ⟨(congrArg Fr.v0 h).symm, (congrArg Fr.v1 h).symm, (congrArg Fr.v2 h).symm, (congrArg Fr.v3 h).symm⟩
  exact e _ this
/-- The reference's way to the same answer. -/
theorem openOk_ref {l : List Nat} (hl : ∀ x ∈ l, x < 256) : openOk l ↔ sumOk l ∧ formed (readF l) ∧ (readF l).cl ≤ 1099511627776 ∧ block' (readF l) = l := by
  constructor
  · rintro ⟨a, b, c⟩
    have := open_formed hl b c
    exact ⟨a, this, b, by rw [block'_formed this, c]⟩
  · rintro ⟨a, b, c, d⟩
    exact ⟨a, c, by rw [← block'_formed b, d]⟩
theorem formed_nan (v : Nat) : vb v = v ↔ ¬ (nanB v = true ∧ v ≠ 2143289344) := by
  rw [vb_eq]
  by_cases h : nanB v = true
  · rw [if_pos h]
    exact ⟨fun e hh => hh.2 e.symm, fun hh => Classical.not_not.1 fun hne => hh ⟨h, fun e => hne e.symm⟩⟩
  · rw [if_neg h]
    exact ⟨fun _ hh => h hh.1, fun _ => rfl⟩
end Go.Proofs.Ytjahaljdfpengaa
