/- Blocks: the reference's Seal. -/
import Derived.Test.YtjahaljdfpengaaOpen5
namespace Go.Proofs.Ytjahaljdfpengaa
open Go.RowKit

theorem within_yes (n m : Int) (w : World) (h0 : 0 ≤ n) (h1 : n ≤ m) : Calls Try.prog 73 #[.int .i64 n, .int .i64 0, .int .i64 m] w fun e w' => e = .returned (.bool true) ∧ w = w' := by
  go_enter Try.func73, Try.ntmps73
  go_wp2
  go_ret
  exact ⟨rfl, rfl⟩
theorem within_no (n m : Int) (w : World) (h : ¬ (0 ≤ n ∧ n ≤ m)) : Calls Try.prog 73 #[.int .i64 n, .int .i64 0, .int .i64 m] w fun e w' => e = .returned (.bool false) ∧ w = w' := by
  by_cases h0 : 0 ≤ n
  · have h1 : m < n := by omega
    have hd : decide (n ≤ m) = false := by simpa using h1
    go_enter Try.func73, Try.ntmps73
    go_wp2
    go_ret
    exact ⟨rfl, rfl⟩
  · go_enter Try.func73, Try.ntmps73
    go_wp2
    go_ret
    exact ⟨rfl, rfl⟩

/-- The first bytes of a block, the others 0. -/
def zz (p : List Nat) : List Nat := p ++ List.replicate (40 - p.length) 0
theorem zz_len {p : List Nat} (h : p.length ≤ 40) : (zz p).length = 40 := by simp [zz]; omega
theorem zz_put {p q : List Nat} {i : Nat} (hi : p.length = i) (h : i + q.length ≤ 40) : putAt (zz p) i q = zz (p ++ q) := by
  subst hi
  unfold putAt zz
  rw [List.take_left, List.drop_append, List.length_append, List.drop_of_length_le (by omega), List.drop_replicate]
  simp
  omega
theorem zz_zero : zz [] = List.replicate 40 0 := rfl
theorem zz_full {p : List Nat} (h : p.length = 40) : zz p = p := by simp [zz, h]
theorem zz_pad {p : List Nat} (h : p.length = 14) : zz p = zz (p ++ le 2 0) := by
  unfold zz
  have e : le 2 0 = List.replicate 2 0 := rfl
  rw [List.append_assoc, e, List.length_append, List.length_replicate, h, List.replicate_append_replicate]
theorem zz_rep : ((zz []).map byt).toArray = Array.replicate 40 (.int .u8 0) := rfl
theorem zz_take {p : List Nat} (h : p.length = 32) : (zz p).take 32 = p := by
  unfold zz
  exact List.take_left' h
theorem zz_lt {p : List Nat} (h : ∀ x ∈ p, x < 256) : ∀ x ∈ zz p, x < 256 := fun x hx => by
  rcases List.mem_append.1 hx with hx | hx
  · exact h x hx
  · rw [(List.mem_replicate.1 hx).2]
    decide
theorem body'_len (f : Fr) : (body' f).length = 32 := by simp [body', le_len]
theorem body'_lt (f : Fr) : ∀ x ∈ body' f, x < 256 := by
  intro x hx
  simp only [body', List.mem_append] at hx
  rcases hx with (((((((((hx | hx) | hx) | hx) | hx) | hx) | hx) | hx) | hx) | hx) | hx
  · cases hx
  all_goals exact le_lt _ _ x hx
theorem block'_len (f : Fr) : (block' f).length = 40 := by simp [block', body'_len, le_len]
theorem block'_lt (f : Fr) : ∀ x ∈ block' f, x < 256 := fun x hx => by
  rcases List.mem_append.1 hx with hx | hx
  · exact body'_lt f x hx
  · exact le_lt _ _ x hx
theorem refDigest_s (s : Nat) (hs : s < 18446744073709551616) (a : Option Addr) (l : List Nat) (cap n : Nat) (hn : l.length = n) (w : World) (hb : BytesAt w a l) (hl : l.length ≤ 1152921504606846976) :
    Calls Try.prog 75 #[.int .u64 (s : Int), .slice a n cap] w fun e w' => e = .returned (.int .u64 (dg s l : Int)) ∧ w' = w := by
  subst hn
  exact (refDigest_any s hs a l cap w hb hl).mono fun _ _ ⟨h1, h2⟩ => ⟨h1, h2.symm⟩
/-- Cells of the reference's frame. -/
def partR (f : Fr) : Array Value := #[.int .i64 f.st, .int .i64 f.lo, .int .i64 f.li, .int .i64 f.nu, .int .i64 f.cl, .int .u32 f.v0, .int .u32 f.v1, .int .u32 f.v2, .int .u32 f.v3]
theorem zz_inf {p : List Nat} (h : p.length ≤ 40) : (Try.prog.info? 31).map (·.size) = some ((zz p).map byt).length := infoR (by rw [List.length_map, zz_len h])
theorem zz_same {p q : List Nat} (hp : p.length ≤ 40) (hq : q.length ≤ 40) : (((zz p).map byt).toArray).size = ((zz q).map byt).length := by
  rw [List.size_toArray, List.length_map, List.length_map, zz_len hp, zz_len hq]
theorem zeros_size {q : List Nat} (hq : q.length ≤ 40) : (Array.replicate 40 (Value.int .u8 0)).size = ((zz q).map byt).length := by
  rw [List.length_map, zz_len hq]; rfl
theorem cR0 {w : World} {g : Nat} {t : TypeId} {st lo li nu cl v0 v1 v2 v3 : Nat} (h : Box w g t (partR ⟨st, lo, li, nu, cl, v0, v1, v2, v3⟩)) : w.cell? ⟨g, 0, none⟩ = some (.int .i64 st) := h.at_ rfl
theorem cR1 {w : World} {g : Nat} {t : TypeId} {st lo li nu cl v0 v1 v2 v3 : Nat} (h : Box w g t (partR ⟨st, lo, li, nu, cl, v0, v1, v2, v3⟩)) : w.cell? ⟨g, 1, none⟩ = some (.int .i64 lo) := h.at_ rfl
theorem cR2 {w : World} {g : Nat} {t : TypeId} {st lo li nu cl v0 v1 v2 v3 : Nat} (h : Box w g t (partR ⟨st, lo, li, nu, cl, v0, v1, v2, v3⟩)) : w.cell? ⟨g, 2, none⟩ = some (.int .i64 li) := h.at_ rfl
theorem cR3 {w : World} {g : Nat} {t : TypeId} {st lo li nu cl v0 v1 v2 v3 : Nat} (h : Box w g t (partR ⟨st, lo, li, nu, cl, v0, v1, v2, v3⟩)) : w.cell? ⟨g, 3, none⟩ = some (.int .i64 nu) := h.at_ rfl
theorem cR4 {w : World} {g : Nat} {t : TypeId} {st lo li nu cl v0 v1 v2 v3 : Nat} (h : Box w g t (partR ⟨st, lo, li, nu, cl, v0, v1, v2, v3⟩)) : w.cell? ⟨g, 4, none⟩ = some (.int .i64 cl) := h.at_ rfl
theorem cR5 {w : World} {g : Nat} {t : TypeId} {st lo li nu cl v0 v1 v2 v3 : Nat} (h : Box w g t (partR ⟨st, lo, li, nu, cl, v0, v1, v2, v3⟩)) : w.cell? ⟨g, 5, none⟩ = some (.int .u32 v0) := h.at_ rfl
theorem cR6 {w : World} {g : Nat} {t : TypeId} {st lo li nu cl v0 v1 v2 v3 : Nat} (h : Box w g t (partR ⟨st, lo, li, nu, cl, v0, v1, v2, v3⟩)) : w.cell? ⟨g, 6, none⟩ = some (.int .u32 v1) := h.at_ rfl
theorem cR7 {w : World} {g : Nat} {t : TypeId} {st lo li nu cl v0 v1 v2 v3 : Nat} (h : Box w g t (partR ⟨st, lo, li, nu, cl, v0, v1, v2, v3⟩)) : w.cell? ⟨g, 7, none⟩ = some (.int .u32 v2) := h.at_ rfl
theorem cR8 {w : World} {g : Nat} {t : TypeId} {st lo li nu cl v0 v1 v2 v3 : Nat} (h : Box w g t (partR ⟨st, lo, li, nu, cl, v0, v1, v2, v3⟩)) : w.cell? ⟨g, 8, none⟩ = some (.int .u32 v3) := h.at_ rfl
theorem base6 (f : Fr) (w W : World) (h : W = (((w.alloc (.cells (partR f) 37)).alloc (.cells (Array.replicate 40 (.int .u8 0)) 31)).alloc (.cells (Array.replicate 40 (.int .u8 0)) 31))) :
    Hid (Box W w.heap.size 37 (partR f)) ∧ Hid (Box W (w.heap.size + 1) 31 (Array.replicate 40 (.int .u8 0))) ∧ Hid (Box W (w.heap.size + 2) 31 ((zz []).map byt).toArray) ∧ Below w.heap.size w W := by
  subst h
  refine ⟨Lib.hid ?_, Lib.hid ?_, Lib.hid ?_, (((Below.refl _ _).alloc (Nat.le_refl _) _).alloc (by simp) _).alloc (by simp; omega) _⟩
  · exact ((Box.new w _ _).below ((Below.refl _ _).alloc (Nat.le_refl _) _) (by simp)).below ((Below.refl _ _).alloc (Nat.le_refl _) _) (by simp; omega)
  · exact (Box.new' _ _ _ _ (by simp)).below ((Below.refl _ _).alloc (Nat.le_refl _) _) (by simp)
  · rw [zz_rep]
    exact Box.new' _ _ _ _ (by simp)
theorem dr6 {W W2 : World} {g : Nat} {t t1 t2 : TypeId} {a b c : Array Value} {B : Nat} {w : World} (h : W2 = W.drew) (hF : Box W g t a) (hR : Box W (g + 1) t1 b) (hB : Box W (g + 2) t2 c) (hb : Below B w W) :
    Hid (Box W2 g t a) ∧ Hid (Box W2 (g + 1) t1 b) ∧ Hid (Box W2 (g + 2) t2 c) ∧ Below B w W2 := by
  subst h
  exact ⟨Lib.hid hF, Lib.hid hR, Lib.hid hB, below_drew hb⟩
theorem wpStill_box_load {P : Program} {ops : Array Oper} {rest : List Oper} {o : Oper} {a : Act} {w : World} {Q : Act → Prop} (hgd : o.guard = none) (ty : TypeId) (x : Operand) (ho : o.op = .load ty x) (g : Nat) (hx : a.eval x = .pointer (some ⟨g, 0, none⟩)) (t : TypeId) (vs : List Value) (d : TypeDesc)
    (hB : Box w g t vs.toArray) (hu : P.underlying ty = some d) (hd : d.isRow = true) (hi : (P.info? ty).map (·.size) = some vs.length) (h : wpStill P ops w Q rest (a.put o.dst (.agg vs.toArray))) : wpStill P ops w Q (o :: rest) a := by
  rw [wpStill, if_pos (by simp [Region.wanted, hgd])]
  exact still_box_load ty x ho g hx t vs d hB hu hd hi h

set_option maxHeartbeats 8000000 in
set_option maxRecDepth 100000 in
theorem refSeal_yes (f : Fr) (w : World) (h : FrOk f) :
    Calls Try.prog 14 #[f.ref] w fun e w' => e = .returned (.tuple #[.agg ((block' f).map byt).toArray, .int .i64 0]) ∧ Below w.heap.size w w' := by
  obtain ⟨st, lo, li, nu, cl, v0, v1, v2, v3⟩ := f
  obtain ⟨h1, h2, h3, h4, h5, h6, h7, h8, h9⟩ := h
  simp only at h1 h2 h3 h4 h5 h6 h7 h8 h9
  have l0 : (([] : List Nat)).length = 0 := by rfl
  have l1 : (([] : List Nat) ++ le 2 st).length = 2 := by simp [le_len]
  have l2 : (([] : List Nat) ++ le 2 st ++ le 1 lo).length = 3 := by simp [le_len]
  have l3 : (([] : List Nat) ++ le 2 st ++ le 1 lo ++ le 1 li).length = 4 := by simp [le_len]
  have l4 : (([] : List Nat) ++ le 2 st ++ le 1 lo ++ le 1 li ++ le 4 nu).length = 8 := by simp [le_len]
  have l5 : (([] : List Nat) ++ le 2 st ++ le 1 lo ++ le 1 li ++ le 4 nu ++ le 6 cl ++ le 2 0).length = 16 := by simp [le_len]
  have l6 : (([] : List Nat) ++ le 2 st ++ le 1 lo ++ le 1 li ++ le 4 nu ++ le 6 cl ++ le 2 0 ++ le 4 v0).length = 20 := by simp [le_len]
  have l7 : (([] : List Nat) ++ le 2 st ++ le 1 lo ++ le 1 li ++ le 4 nu ++ le 6 cl ++ le 2 0 ++ le 4 v0 ++ le 4 v1).length = 24 := by simp [le_len]
  have l8 : (([] : List Nat) ++ le 2 st ++ le 1 lo ++ le 1 li ++ le 4 nu ++ le 6 cl ++ le 2 0 ++ le 4 v0 ++ le 4 v1 ++ le 4 v2).length = 28 := by simp [le_len]
  have l9 : (([] : List Nat) ++ le 2 st ++ le 1 lo ++ le 1 li ++ le 4 nu ++ le 6 cl ++ le 2 0 ++ le 4 v0 ++ le 4 v1 ++ le 4 v2 ++ le 4 v3).length = 32 := by simp [le_len]
  have hlt9 : ∀ x ∈ ([] : List Nat) ++ le 2 st ++ le 1 lo ++ le 1 li ++ le 4 nu ++ le 6 cl ++ le 2 0 ++ le 4 v0 ++ le 4 v1 ++ le 4 v2 ++ le 4 v3, x < 256 := body'_lt ⟨st, lo, li, nu, cl, v0, v1, v2, v3⟩
  have hdef : block' ⟨st, lo, li, nu, cl, v0, v1, v2, v3⟩ = ([] : List Nat) ++ le 2 st ++ le 1 lo ++ le 1 li ++ le 4 nu ++ le 6 cl ++ le 2 0 ++ le 4 v0 ++ le 4 v1 ++ le 4 v2 ++ le 4 v3 ++ le 8 (dg 11 (([] : List Nat) ++ le 2 st ++ le 1 lo ++ le 1 li ++ le 4 nu ++ le 6 cl ++ le 2 0 ++ le 4 v0 ++ le 4 v1 ++ le 4 v2 ++ le 4 v3)) := rfl
  have HDEF := Lib.hid hdef
  have HLT9 := Lib.hid hlt9
  clear hdef hlt9
  obtain ⟨p1, e1⟩ : ∃ p, p = ([] : List Nat) ++ le 2 st := ⟨_, rfl⟩
  obtain ⟨p2, e2⟩ : ∃ p, p = ([] : List Nat) ++ le 2 st ++ le 1 lo := ⟨_, rfl⟩
  obtain ⟨p3, e3⟩ : ∃ p, p = ([] : List Nat) ++ le 2 st ++ le 1 lo ++ le 1 li := ⟨_, rfl⟩
  obtain ⟨p4, e4⟩ : ∃ p, p = ([] : List Nat) ++ le 2 st ++ le 1 lo ++ le 1 li ++ le 4 nu := ⟨_, rfl⟩
  obtain ⟨p5, e5⟩ : ∃ p, p = ([] : List Nat) ++ le 2 st ++ le 1 lo ++ le 1 li ++ le 4 nu ++ le 6 cl ++ le 2 0 := ⟨_, rfl⟩
  obtain ⟨p6, e6⟩ : ∃ p, p = ([] : List Nat) ++ le 2 st ++ le 1 lo ++ le 1 li ++ le 4 nu ++ le 6 cl ++ le 2 0 ++ le 4 v0 := ⟨_, rfl⟩
  obtain ⟨p7, e7⟩ : ∃ p, p = ([] : List Nat) ++ le 2 st ++ le 1 lo ++ le 1 li ++ le 4 nu ++ le 6 cl ++ le 2 0 ++ le 4 v0 ++ le 4 v1 := ⟨_, rfl⟩
  obtain ⟨p8, e8⟩ : ∃ p, p = ([] : List Nat) ++ le 2 st ++ le 1 lo ++ le 1 li ++ le 4 nu ++ le 6 cl ++ le 2 0 ++ le 4 v0 ++ le 4 v1 ++ le 4 v2 := ⟨_, rfl⟩
  obtain ⟨p9, e9⟩ : ∃ p, p = ([] : List Nat) ++ le 2 st ++ le 1 lo ++ le 1 li ++ le 4 nu ++ le 6 cl ++ le 2 0 ++ le 4 v0 ++ le 4 v1 ++ le 4 v2 ++ le 4 v3 := ⟨_, rfl⟩
  have L0 : Hid (([] : List Nat).length = 0) := Lib.hid rfl
  have L1 : Hid (p1.length = 2) := Lib.hid (by rw [e1]; exact l1)
  have L2 : Hid (p2.length = 3) := Lib.hid (by rw [e2]; exact l2)
  have L3 : Hid (p3.length = 4) := Lib.hid (by rw [e3]; exact l3)
  have L4 : Hid (p4.length = 8) := Lib.hid (by rw [e4]; exact l4)
  have L5 : Hid (p5.length = 16) := Lib.hid (by rw [e5]; exact l5)
  have L6 : Hid (p6.length = 20) := Lib.hid (by rw [e6]; exact l6)
  have L7 : Hid (p7.length = 24) := Lib.hid (by rw [e7]; exact l7)
  have L8 : Hid (p8.length = 28) := Lib.hid (by rw [e8]; exact l8)
  have L9 : Hid (p9.length = 32) := Lib.hid (by rw [e9]; exact l9)
  have P0 : Hid (putAt (zz []) 0 (le 2 st) = zz p1) := Lib.hid (by rw [zz_put L0.out (by rw [le_len]; decide), e1])
  have P1 : Hid (putAt (zz p1) 2 (le 1 lo) = zz p2) := Lib.hid (by rw [zz_put L1.out (by rw [le_len]; decide), e2, e1])
  have P2 : Hid (putAt (zz p2) 3 (le 1 li) = zz p3) := Lib.hid (by rw [zz_put L2.out (by rw [le_len]; decide), e3, e2])
  have P3 : Hid (putAt (zz p3) 4 (le 4 nu) = zz p4) := Lib.hid (by rw [zz_put L3.out (by rw [le_len]; decide), e4, e3])
  have P4 : Hid (putAt (zz p4) 8 (le 6 cl) = zz p5) := Lib.hid (by rw [zz_put L4.out (by rw [le_len]; decide), zz_pad (by simp [L4.out, le_len]), e5, e4])
  have P5 : Hid (putAt (zz p5) 16 (le 4 v0) = zz p6) := Lib.hid (by rw [zz_put L5.out (by rw [le_len]; decide), e6, e5])
  have P6 : Hid (putAt (zz p6) 20 (le 4 v1) = zz p7) := Lib.hid (by rw [zz_put L6.out (by rw [le_len]; decide), e7, e6])
  have P7 : Hid (putAt (zz p7) 24 (le 4 v2) = zz p8) := Lib.hid (by rw [zz_put L7.out (by rw [le_len]; decide), e8, e7])
  have P8 : Hid (putAt (zz p8) 28 (le 4 v3) = zz p9) := Lib.hid (by rw [zz_put L8.out (by rw [le_len]; decide), e9, e8])
  have HD9 : Hid (block' ⟨st, lo, li, nu, cl, v0, v1, v2, v3⟩ = p9 ++ le 8 (dg 11 p9)) := Lib.hid (by rw [HDEF.out, e9])
  have HL9 : Hid (∀ x ∈ p9, x < 256) := Lib.hid (by rw [e9]; exact HLT9.out)
  have HP9 : Hid (putAt (zz p9) 32 (le 8 (dg 11 p9)) = block' ⟨st, lo, li, nu, cl, v0, v1, v2, v3⟩) := Lib.hid (by rw [zz_put L9.out (by rw [le_len]; decide), HD9.out, zz_full (by rw [List.length_append, L9.out, le_len])])
  clear HDEF HLT9 HD9 l0 l1 l2 l3 l4 l5 l6 l7 l8 l9 e1 e2 e3 e4 e5 e6 e7 e8 e9
  have I0 := Lib.hid (zz_inf (p := []) (by rw [L0.out]; decide))
  have I1 := Lib.hid (zz_inf (p := p1) (by rw [L1.out]; decide))
  have I2 := Lib.hid (zz_inf (p := p2) (by rw [L2.out]; decide))
  have I3 := Lib.hid (zz_inf (p := p3) (by rw [L3.out]; decide))
  have I4 := Lib.hid (zz_inf (p := p4) (by rw [L4.out]; decide))
  have I5 := Lib.hid (zz_inf (p := p5) (by rw [L5.out]; decide))
  have I6 := Lib.hid (zz_inf (p := p6) (by rw [L6.out]; decide))
  have I7 := Lib.hid (zz_inf (p := p7) (by rw [L7.out]; decide))
  have I8 := Lib.hid (zz_inf (p := p8) (by rw [L8.out]; decide))
  have I9 := Lib.hid (zz_inf (p := p9) (by rw [L9.out]; decide))
  have S0 := Lib.hid (zz_same (p := []) (q := p1) (by rw [L0.out]; decide) (by rw [L1.out]; decide))
  have S1 := Lib.hid (zz_same (p := p1) (q := p2) (by rw [L1.out]; decide) (by rw [L2.out]; decide))
  have S2 := Lib.hid (zz_same (p := p2) (q := p3) (by rw [L2.out]; decide) (by rw [L3.out]; decide))
  have S3 := Lib.hid (zz_same (p := p3) (q := p4) (by rw [L3.out]; decide) (by rw [L4.out]; decide))
  have S4 := Lib.hid (zz_same (p := p4) (q := p5) (by rw [L4.out]; decide) (by rw [L5.out]; decide))
  have S5 := Lib.hid (zz_same (p := p5) (q := p6) (by rw [L5.out]; decide) (by rw [L6.out]; decide))
  have S6 := Lib.hid (zz_same (p := p6) (q := p7) (by rw [L6.out]; decide) (by rw [L7.out]; decide))
  have S7 := Lib.hid (zz_same (p := p7) (q := p8) (by rw [L7.out]; decide) (by rw [L8.out]; decide))
  have S8 := Lib.hid (zz_same (p := p8) (q := p9) (by rw [L8.out]; decide) (by rw [L9.out]; decide))
  have M2 := Lib.hid (show w.heap.size ≠ w.heap.size + 2 by omega)
  have M1 := Lib.hid (show w.heap.size + 1 ≠ w.heap.size + 2 by omega)
  have N2 := Lib.hid (show w.heap.size ≤ w.heap.size + 2 by omega)
  go_enter Try.func14, Try.ntmps14
  go_wp2_with fail
  refine (within_yes _ _ _ (by omega) (by omega)).mono ?_
  rintro e w' ⟨rfl, rfl⟩
  go_wp2_with fail
  refine (within_yes _ _ _ (by omega) (by omega)).mono ?_
  rintro e w' ⟨rfl, rfl⟩
  go_wp2_with fail
  refine (within_yes _ _ _ (by omega) (by omega)).mono ?_
  rintro e w' ⟨rfl, rfl⟩
  go_wp2_with fail
  refine (within_yes _ _ _ (by omega) (by omega)).mono ?_
  rintro e w' ⟨rfl, rfl⟩
  go_wp2_with fail
  refine (within_yes _ _ _ (by omega) (by omega)).mono ?_
  rintro e w' ⟨rfl, rfl⟩
  obtain ⟨F0, R0, B0, hb0⟩ := base6 ⟨st, lo, li, nu, cl, v0, v1, v2, v3⟩ w (((w.alloc (.cells #[.int .i64 st, .int .i64 lo, .int .i64 li, .int .i64 nu, .int .i64 cl, .int .u32 v0, .int .u32 v1, .int .u32 v2, .int .u32 v3] 37)).alloc (.cells #[.int .u8 0, .int .u8 0, .int .u8 0, .int .u8 0, .int .u8 0, .int .u8 0, .int .u8 0, .int .u8 0, .int .u8 0, .int .u8 0, .int .u8 0, .int .u8 0, .int .u8 0, .int .u8 0, .int .u8 0, .int .u8 0, .int .u8 0, .int .u8 0, .int .u8 0, .int .u8 0, .int .u8 0, .int .u8 0, .int .u8 0, .int .u8 0, .int .u8 0, .int .u8 0, .int .u8 0, .int .u8 0, .int .u8 0, .int .u8 0, .int .u8 0, .int .u8 0, .int .u8 0, .int .u8 0, .int .u8 0, .int .u8 0, .int .u8 0, .int .u8 0, .int .u8 0, .int .u8 0] 31)).alloc (.cells #[.int .u8 0, .int .u8 0, .int .u8 0, .int .u8 0, .int .u8 0, .int .u8 0, .int .u8 0, .int .u8 0, .int .u8 0, .int .u8 0, .int .u8 0, .int .u8 0, .int .u8 0, .int .u8 0, .int .u8 0, .int .u8 0, .int .u8 0, .int .u8 0, .int .u8 0, .int .u8 0, .int .u8 0, .int .u8 0, .int .u8 0, .int .u8 0, .int .u8 0, .int .u8 0, .int .u8 0, .int .u8 0, .int .u8 0, .int .u8 0, .int .u8 0, .int .u8 0, .int .u8 0, .int .u8 0, .int .u8 0, .int .u8 0, .int .u8 0, .int .u8 0, .int .u8 0, .int .u8 0] 31)) rfl
  generalize (((w.alloc (.cells #[.int .i64 st, .int .i64 lo, .int .i64 li, .int .i64 nu, .int .i64 cl, .int .u32 v0, .int .u32 v1, .int .u32 v2, .int .u32 v3] 37)).alloc (.cells #[.int .u8 0, .int .u8 0, .int .u8 0, .int .u8 0, .int .u8 0, .int .u8 0, .int .u8 0, .int .u8 0, .int .u8 0, .int .u8 0, .int .u8 0, .int .u8 0, .int .u8 0, .int .u8 0, .int .u8 0, .int .u8 0, .int .u8 0, .int .u8 0, .int .u8 0, .int .u8 0, .int .u8 0, .int .u8 0, .int .u8 0, .int .u8 0, .int .u8 0, .int .u8 0, .int .u8 0, .int .u8 0, .int .u8 0, .int .u8 0, .int .u8 0, .int .u8 0, .int .u8 0, .int .u8 0, .int .u8 0, .int .u8 0, .int .u8 0, .int .u8 0, .int .u8 0, .int .u8 0] 31)).alloc (.cells #[.int .u8 0, .int .u8 0, .int .u8 0, .int .u8 0, .int .u8 0, .int .u8 0, .int .u8 0, .int .u8 0, .int .u8 0, .int .u8 0, .int .u8 0, .int .u8 0, .int .u8 0, .int .u8 0, .int .u8 0, .int .u8 0, .int .u8 0, .int .u8 0, .int .u8 0, .int .u8 0, .int .u8 0, .int .u8 0, .int .u8 0, .int .u8 0, .int .u8 0, .int .u8 0, .int .u8 0, .int .u8 0, .int .u8 0, .int .u8 0, .int .u8 0, .int .u8 0, .int .u8 0, .int .u8 0, .int .u8 0, .int .u8 0, .int .u8 0, .int .u8 0, .int .u8 0, .int .u8 0] 31)) = W0 at *
  have q := cR0 F0.out
  go_wp2_with (first | (refine wpList_box_load rfl 31 _ rfl (w.heap.size + 2) rfl _ ((zz ([] : List Nat)).map byt) _ B0.out Try.underlying31 rfl I0.out ?_))
  clear q
  refine (refPut_any (zz ([] : List Nat)) 0 2 st (zz_len (by rw [L0.out]; decide)) (by decide) (by decide) _).mono ?_
  rintro e V0 ⟨rfl, hv⟩
  rw [P0.out]
  have C0 := Lib.hid (B0.out.below hv B0.out.lt)
  have G0 := Lib.hid (F0.out.below hv F0.out.lt)
  have Q0 := Lib.hid (R0.out.below hv R0.out.lt)
  have hc0 := hb0.trans (hv.mono hb0.size)
  clear hv B0 F0 R0 hb0
  go_wp2_with (first | (refine wpList_box_store rfl 31 _ _ rfl (w.heap.size + 2) rfl ((zz p1).map byt) rfl _ _ C0.out S0.out I1.out (byt_one _) ?_; intro X0 hX; have B1 := Lib.hid hX.box; have F1 := Lib.hid (G0.out.kept hX.other M2.out); have R1 := Lib.hid (Q0.out.kept hX.other M1.out); have hb1 := hc0.trans (hX.below _ N2.out); have q := cR1 F1.out; clear hX C0 G0 Q0 hc0) | (refine wpList_box_load rfl 31 _ rfl (w.heap.size + 2) rfl _ ((zz p1).map byt) _ B1.out Try.underlying31 rfl I1.out ?_))
  clear q
  refine (refPut_any (zz p1) 2 1 lo (zz_len (by rw [L1.out]; decide)) (by decide) (by decide) _).mono ?_
  rintro e V1 ⟨rfl, hv⟩
  rw [P1.out]
  have C1 := Lib.hid (B1.out.below hv B1.out.lt)
  have G1 := Lib.hid (F1.out.below hv F1.out.lt)
  have Q1 := Lib.hid (R1.out.below hv R1.out.lt)
  have hc1 := hb1.trans (hv.mono hb1.size)
  clear hv B1 F1 R1 hb1
  go_wp2_with (first | (refine wpList_box_store rfl 31 _ _ rfl (w.heap.size + 2) rfl ((zz p2).map byt) rfl _ _ C1.out S1.out I2.out (byt_one _) ?_; intro X1 hX; have B2 := Lib.hid hX.box; have F2 := Lib.hid (G1.out.kept hX.other M2.out); have R2 := Lib.hid (Q1.out.kept hX.other M1.out); have hb2 := hc1.trans (hX.below _ N2.out); have q := cR2 F2.out; clear hX C1 G1 Q1 hc1) | (refine wpList_box_load rfl 31 _ rfl (w.heap.size + 2) rfl _ ((zz p2).map byt) _ B2.out Try.underlying31 rfl I2.out ?_))
  clear q
  refine (refPut_any (zz p2) 3 1 li (zz_len (by rw [L2.out]; decide)) (by decide) (by decide) _).mono ?_
  rintro e V2 ⟨rfl, hv⟩
  rw [P2.out]
  have C2 := Lib.hid (B2.out.below hv B2.out.lt)
  have G2 := Lib.hid (F2.out.below hv F2.out.lt)
  have Q2 := Lib.hid (R2.out.below hv R2.out.lt)
  have hc2 := hb2.trans (hv.mono hb2.size)
  clear hv B2 F2 R2 hb2
  go_wp2_with (first | (refine wpList_box_store rfl 31 _ _ rfl (w.heap.size + 2) rfl ((zz p3).map byt) rfl _ _ C2.out S2.out I3.out (byt_one _) ?_; intro X2 hX; have B3 := Lib.hid hX.box; have F3 := Lib.hid (G2.out.kept hX.other M2.out); have R3 := Lib.hid (Q2.out.kept hX.other M1.out); have hb3 := hc2.trans (hX.below _ N2.out); have q := cR3 F3.out; clear hX C2 G2 Q2 hc2) | (refine wpList_box_load rfl 31 _ rfl (w.heap.size + 2) rfl _ ((zz p3).map byt) _ B3.out Try.underlying31 rfl I3.out ?_))
  clear q
  refine (refPut_any (zz p3) 4 4 nu (zz_len (by rw [L3.out]; decide)) (by decide) (by decide) _).mono ?_
  rintro e V3 ⟨rfl, hv⟩
  rw [P3.out]
  have C3 := Lib.hid (B3.out.below hv B3.out.lt)
  have G3 := Lib.hid (F3.out.below hv F3.out.lt)
  have Q3 := Lib.hid (R3.out.below hv R3.out.lt)
  have hc3 := hb3.trans (hv.mono hb3.size)
  clear hv B3 F3 R3 hb3
  go_wp2_with (first | (refine wpList_box_store rfl 31 _ _ rfl (w.heap.size + 2) rfl ((zz p4).map byt) rfl _ _ C3.out S3.out I4.out (byt_one _) ?_; intro X3 hX; have B4 := Lib.hid hX.box; have F4 := Lib.hid (G3.out.kept hX.other M2.out); have R4 := Lib.hid (Q3.out.kept hX.other M1.out); have hb4 := hc3.trans (hX.below _ N2.out); have q := cR4 F4.out; clear hX C3 G3 Q3 hc3) | (refine wpList_box_load rfl 31 _ rfl (w.heap.size + 2) rfl _ ((zz p4).map byt) _ B4.out Try.underlying31 rfl I4.out ?_))
  clear q
  refine (refPut_any (zz p4) 8 6 cl (zz_len (by rw [L4.out]; decide)) (by decide) (by decide) _).mono ?_
  rintro e V4 ⟨rfl, hv⟩
  rw [P4.out]
  have C4 := Lib.hid (B4.out.below hv B4.out.lt)
  have G4 := Lib.hid (F4.out.below hv F4.out.lt)
  have Q4 := Lib.hid (R4.out.below hv R4.out.lt)
  have hc4 := hb4.trans (hv.mono hb4.size)
  clear hv B4 F4 R4 hb4
  go_wp2_with (first | (refine wpList_box_store rfl 31 _ _ rfl (w.heap.size + 2) rfl ((zz p5).map byt) rfl _ _ C4.out S4.out I5.out (byt_one _) ?_; intro X4 hX; have B5 := Lib.hid hX.box; have F5 := Lib.hid (G4.out.kept hX.other M2.out); have R5 := Lib.hid (Q4.out.kept hX.other M1.out); have hb5 := hc4.trans (hX.below _ N2.out); have q := cR5 F5.out; clear hX C4 G4 Q4 hc4))
  clear q
  refine wp_loop_rounds 5 ?_
  rw [rounds_succ]
  go_wp2_with fail
  refine region_tail 9 (by kernel_rfl) (by kernel_rfl) (fun w2 hw2 => ?_)
  obtain ⟨D5, E5, T5, hd5⟩ := dr6 hw2 F5.out R5.out B5.out hb5
  clear hw2 F5 R5 B5 hb5
  have q := cR5 D5.out
  refine wpStill_box_load rfl 31 _ rfl (w.heap.size + 2) rfl _ ((zz p5).map byt) _ T5.out Try.underlying31 rfl I5.out ?_
  simp only [List.take_succ_cons, List.take_zero, List.drop_succ_cons, List.drop_zero]
  iterate 8 still_step
  refine wpStill_nil ?_
  clear q
  go_wp2_with fail
  refine (refPut_any (zz p5) 16 4 v0 (zz_len (by rw [L5.out]; decide)) (by decide) (by decide) _).mono ?_
  rintro e V5 ⟨rfl, hv⟩
  rw [P5.out]
  have C5 := Lib.hid (T5.out.below hv T5.out.lt)
  have G5 := Lib.hid (D5.out.below hv D5.out.lt)
  have Q5 := Lib.hid (E5.out.below hv E5.out.lt)
  have hc5 := hd5.trans (hv.mono hd5.size)
  clear hv T5 D5 E5 hd5
  go_wp2_with (first | (refine wpList_box_store rfl 31 _ _ rfl (w.heap.size + 2) rfl ((zz p6).map byt) rfl _ _ C5.out S5.out I6.out (byt_one _) ?_; intro X5 hX; have B6 := Lib.hid hX.box; have F6 := Lib.hid (G5.out.kept hX.other M2.out); have R6 := Lib.hid (Q5.out.kept hX.other M1.out); have hb6 := hc5.trans (hX.below _ N2.out); clear hX C5 G5 Q5 hc5))
  rw [rounds_succ]
  go_wp2_with fail
  refine region_tail 9 (by kernel_rfl) (by kernel_rfl) (fun w2 hw2 => ?_)
  obtain ⟨D6, E6, T6, hd6⟩ := dr6 hw2 F6.out R6.out B6.out hb6
  clear hw2 F6 R6 B6 hb6
  have q := cR6 D6.out
  refine wpStill_box_load rfl 31 _ rfl (w.heap.size + 2) rfl _ ((zz p6).map byt) _ T6.out Try.underlying31 rfl I6.out ?_
  simp only [List.take_succ_cons, List.take_zero, List.drop_succ_cons, List.drop_zero]
  iterate 8 still_step
  refine wpStill_nil ?_
  clear q
  go_wp2_with fail
  refine (refPut_any (zz p6) 20 4 v1 (zz_len (by rw [L6.out]; decide)) (by decide) (by decide) _).mono ?_
  rintro e V6 ⟨rfl, hv⟩
  rw [P6.out]
  have C6 := Lib.hid (T6.out.below hv T6.out.lt)
  have G6 := Lib.hid (D6.out.below hv D6.out.lt)
  have Q6 := Lib.hid (E6.out.below hv E6.out.lt)
  have hc6 := hd6.trans (hv.mono hd6.size)
  clear hv T6 D6 E6 hd6
  go_wp2_with (first | (refine wpList_box_store rfl 31 _ _ rfl (w.heap.size + 2) rfl ((zz p7).map byt) rfl _ _ C6.out S6.out I7.out (byt_one _) ?_; intro X6 hX; have B7 := Lib.hid hX.box; have F7 := Lib.hid (G6.out.kept hX.other M2.out); have R7 := Lib.hid (Q6.out.kept hX.other M1.out); have hb7 := hc6.trans (hX.below _ N2.out); clear hX C6 G6 Q6 hc6))
  rw [rounds_succ]
  go_wp2_with fail
  refine region_tail 9 (by kernel_rfl) (by kernel_rfl) (fun w2 hw2 => ?_)
  obtain ⟨D7, E7, T7, hd7⟩ := dr6 hw2 F7.out R7.out B7.out hb7
  clear hw2 F7 R7 B7 hb7
  have q := cR7 D7.out
  refine wpStill_box_load rfl 31 _ rfl (w.heap.size + 2) rfl _ ((zz p7).map byt) _ T7.out Try.underlying31 rfl I7.out ?_
  simp only [List.take_succ_cons, List.take_zero, List.drop_succ_cons, List.drop_zero]
  iterate 8 still_step
  refine wpStill_nil ?_
  clear q
  go_wp2_with fail
  refine (refPut_any (zz p7) 24 4 v2 (zz_len (by rw [L7.out]; decide)) (by decide) (by decide) _).mono ?_
  rintro e V7 ⟨rfl, hv⟩
  rw [P7.out]
  have C7 := Lib.hid (T7.out.below hv T7.out.lt)
  have G7 := Lib.hid (D7.out.below hv D7.out.lt)
  have Q7 := Lib.hid (E7.out.below hv E7.out.lt)
  have hc7 := hd7.trans (hv.mono hd7.size)
  clear hv T7 D7 E7 hd7
  go_wp2_with (first | (refine wpList_box_store rfl 31 _ _ rfl (w.heap.size + 2) rfl ((zz p8).map byt) rfl _ _ C7.out S7.out I8.out (byt_one _) ?_; intro X7 hX; have B8 := Lib.hid hX.box; have F8 := Lib.hid (G7.out.kept hX.other M2.out); have R8 := Lib.hid (Q7.out.kept hX.other M1.out); have hb8 := hc7.trans (hX.below _ N2.out); clear hX C7 G7 Q7 hc7))
  rw [rounds_succ]
  go_wp2_with fail
  refine region_tail 9 (by kernel_rfl) (by kernel_rfl) (fun w2 hw2 => ?_)
  obtain ⟨D8, E8, T8, hd8⟩ := dr6 hw2 F8.out R8.out B8.out hb8
  clear hw2 F8 R8 B8 hb8
  have q := cR8 D8.out
  refine wpStill_box_load rfl 31 _ rfl (w.heap.size + 2) rfl _ ((zz p8).map byt) _ T8.out Try.underlying31 rfl I8.out ?_
  simp only [List.take_succ_cons, List.take_zero, List.drop_succ_cons, List.drop_zero]
  iterate 8 still_step
  refine wpStill_nil ?_
  clear q
  go_wp2_with fail
  refine (refPut_any (zz p8) 28 4 v3 (zz_len (by rw [L8.out]; decide)) (by decide) (by decide) _).mono ?_
  rintro e V8 ⟨rfl, hv⟩
  rw [P8.out]
  have C8 := Lib.hid (T8.out.below hv T8.out.lt)
  have G8 := Lib.hid (D8.out.below hv D8.out.lt)
  have Q8 := Lib.hid (E8.out.below hv E8.out.lt)
  have hc8 := hd8.trans (hv.mono hd8.size)
  clear hv T8 D8 E8 hd8
  go_wp2_with (first | (refine wpList_box_store rfl 31 _ _ rfl (w.heap.size + 2) rfl ((zz p9).map byt) rfl _ _ C8.out S8.out I9.out (byt_one _) ?_; intro X8 hX; have B9 := Lib.hid hX.box; have F9 := Lib.hid (G8.out.kept hX.other M2.out); have R9 := Lib.hid (Q8.out.kept hX.other M1.out); have hb9 := hc8.trans (hX.below _ N2.out); clear hX C8 G8 Q8 hc8))
  rw [rounds_succ]
  go_wp2_with fail
  refine region_tail 3 (by kernel_rfl) (by kernel_rfl) (fun w2 hw2 => ?_)
  obtain ⟨D9, E9, T9, hd9⟩ := dr6 hw2 F9.out R9.out B9.out hb9
  clear hw2 F9 R9 B9 hb9
  have hbt := bytes_box T9.out (zz_lt HL9.out) 0 32 (by rw [zz_len (by rw [L9.out]; decide)]; decide)
  rw [cut_zero, zz_take L9.out] at hbt
  have hdg := refDigest_s 11 (by decide) _ p9 40 32 L9.out _ hbt (by rw [L9.out]; decide)
  clear hbt
  have HI9 := Lib.hid (infoR (n := ((block' ⟨st, lo, li, nu, cl, v0, v1, v2, v3⟩).map byt).length) (by rw [List.length_map, block'_len]))
  have HS9 : Hid ((Array.replicate 40 (Value.int .u8 0)).size = ((block' ⟨st, lo, li, nu, cl, v0, v1, v2, v3⟩).map byt).length) := Lib.hid (by rw [List.length_map, block'_len]; rfl)
  refine wpStill_box_load rfl 31 _ rfl (w.heap.size + 2) rfl _ ((zz p9).map byt) _ T9.out Try.underlying31 rfl I9.out ?_
  simp only [List.take_succ_cons, List.take_zero, List.drop_succ_cons, List.drop_zero]
  still_step
  still_call hdg
  refine wpStill_nil ?_
  clear hdg
  generalize dg 11 p9 = dd at *
  go_wp2_with fail
  refine (refPut_any (zz p9) 32 8 dd (zz_len (by rw [L9.out]; decide)) (by decide) (by decide) _).mono ?_
  rintro e V9 ⟨rfl, hv⟩
  rw [HP9.out]
  have C9 := Lib.hid (T9.out.below hv T9.out.lt)
  have G9 := Lib.hid (D9.out.below hv D9.out.lt)
  have Q9 := Lib.hid (E9.out.below hv E9.out.lt)
  have hc9 := hd9.trans (hv.mono hd9.size)
  clear hv T9 D9 E9 hd9
  go_wp2_with (refine wpList_box_store rfl 31 _ _ rfl (w.heap.size + 1) rfl ((block' ⟨st, lo, li, nu, cl, v0, v1, v2, v3⟩).map byt) rfl _ _ Q9.out HS9.out HI9.out (byt_one _) ?_; intro X9 hX)
  exact bodyPost_ret (v := .tuple #[.agg ((block' ⟨st, lo, li, nu, cl, v0, v1, v2, v3⟩).map byt).toArray, .int .i64 0]) (results_cell_slot Try.results14 _ _ _ _ rfl (box_load _ hX.box Try.underlying31 rfl HI9.out)) rfl ⟨rfl, hc9.trans (hX.below _ (by omega))⟩
end Go.Proofs.Ytjahaljdfpengaa
