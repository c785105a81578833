/- total, Sum: sums of lists. Sub and Sum. -/
import Derived.Test.YtlncagdekfjinaaGreatDoorFrac5
import Derived.Test.YtlncagdekfjinaaGreatDoorFrac7
import Derived.WalkSpells
namespace Go.Proofs.YtlncagdekfjinaaGreatDoor
open Go.RowKit Go.Sort Dg Fr
def sumQ : List Rat → Rat
  | [] => 0
  | q :: l => q + sumQ l
theorem sumQ_append (a b : List Rat) : sumQ (a ++ b) = sumQ a + sumQ b := by
  induction a with
  | nil => show sumQ b = 0 + sumQ b; grind
  | cons q l ih => show q + sumQ (l ++ b) = q + sumQ l + sumQ b; rw [ih]; grind
def FracsAt (w : World) (a : Option Addr) (qs : List Rat) : Prop :=
  qs ≠ [] → ∃ b off, a = some ⟨b, off, none⟩ ∧ b < w.heap.size ∧ ∀ i (hi : i < qs.length), ∃ v0 v1 v2, w.cell? ⟨b, off + i * 3, none⟩ = some v0 ∧ w.cell? ⟨b, off + i * 3 + 1, none⟩ = some v1 ∧ w.cell? ⟨b, off + i * 3 + 2, none⟩ = some v2 ∧ FracAt w (.agg #[v0, v1, v2]) qs[i]
theorem FracsAt.mono {w w' : World} {a : Option Addr} {qs : List Rat} (h : FracsAt w a qs) (hb : Below w.heap.size w w') : FracsAt w' a qs := fun hq => by
  obtain ⟨b, off, e, hlt, hc⟩ := h hq
  refine ⟨b, off, e, Nat.lt_of_lt_of_le hlt hb.size, fun i hi => ?_⟩
  obtain ⟨v0, v1, v2, h0, h1, h2, hf⟩ := hc i hi
  exact ⟨v0, v1, v2, (hb.cell (p := ⟨b, _, none⟩) hlt).trans h0, (hb.cell (p := ⟨b, _, none⟩) hlt).trans h1, (hb.cell (p := ⟨b, _, none⟩) hlt).trans h2, hf.mono hb⟩
theorem FracsAt.drew {w : World} {a : Option Addr} {qs : List Rat} (h : FracsAt w a qs) : FracsAt w.drew a qs := h.mono (below_drew (Below.refl _ _))
theorem FracsAt.take {w : World} {a : Option Addr} {qs : List Rat} (h : FracsAt w a qs) (k : Nat) : FracsAt w a (qs.take k) := fun hq => by
  have h0 : qs ≠ [] := by rintro rfl; simp at hq
  obtain ⟨b, off, e, hlt, hc⟩ := h h0
  refine ⟨b, off, e, hlt, fun i hi => ?_⟩
  have hi' : i < qs.length := by simp at hi; omega
  rw [List.getElem_take]
  exact hc i hi'
theorem FracsAt.drop {w : World} {b off : Nat} {qs : List Rat} (h : FracsAt w (some ⟨b, off, none⟩) qs) (k : Nat) : FracsAt w (some ⟨b, off + k * 3, none⟩) (qs.drop k) := fun hq => by
  have h0 : qs ≠ [] := by rintro rfl; simp at hq
  obtain ⟨b', off', e, hlt, hc⟩ := h h0
  cases e
  refine ⟨b, off + k * 3, rfl, hlt, fun i hi => ?_⟩
  have hi' : k + i < qs.length := by simp at hi; omega
  rw [List.getElem_drop]
  have := hc (k + i) hi'
  rw [show off + (k + i) * 3 = off + k * 3 + i * 3 by omega] at this
  exact this
def AllSmall (qs : List Rat) : Prop := ∀ i j, Small (sumQ ((qs.drop i).take j))
theorem AllSmall.take {qs : List Rat} (h : AllSmall qs) (k : Nat) : AllSmall (qs.take k) := fun i j => by
  rw [List.drop_take, List.take_take]; exact h i _
theorem AllSmall.drop {qs : List Rat} (h : AllSmall qs) (k : Nat) : AllSmall (qs.drop k) := fun i j => by
  rw [List.drop_drop]; exact h _ j
theorem AllSmall.all {qs : List Rat} (h : AllSmall qs) : Small (sumQ qs) := by
  have := h 0 qs.length
  rwa [List.drop_zero, List.take_length] at this
theorem sum_halves (qs : List Rat) (k : Nat) : sumQ (qs.take k) + sumQ (qs.drop k) = sumQ qs := by rw [← sumQ_append, List.take_append_drop]
theorem total_nil (c : Nat) (a : Option Addr) (w : World) : Calls Tryz.prog 122 #[.slice a 0 c] w (GivesF w 0) := by
  go_enter Tryz.func122, Tryz.ntmps122
  go_wp2
  exact bodyPost_ret (v := zeroF) (by simp [results, Tryz.results122, go_sem]) rfl ⟨zeroF, rfl, FracAt.zero _, by go_grown⟩
theorem total_one (b off c : Nat) (q : Rat) (w : World) (h : FracsAt w (some ⟨b, off, none⟩) [q]) : Calls Tryz.prog 122 #[.slice (some ⟨b, off, none⟩) 1 c] w (GivesF w q) := by
  obtain ⟨b', off', e, hlt, hc⟩ := h (by simp)
  cases e
  obtain ⟨v0, v1, v2, h0, h1, h2, hf⟩ := hc 0 (by simp)
  rw [Nat.zero_mul, Nat.add_zero] at h0 h1 h2
  have hf : FracAt w (.agg #[v0, v1, v2]) q := hf
  have HF := Lib.hid hf
  obtain ⟨a9, c9, b9, m9, k9, e, _, _⟩ := hf
  cases e
  have hne : ¬ b = w.heap.size := by omega
  clear h hc
  go_enter Tryz.func122, Tryz.ntmps122
  go_wp2
  exact bodyPost_ret (v := .agg #[.bool (neg q), .slice a9 (nl (top q)) c9, .slice b9 m9 k9]) (by simp [results, Tryz.results122, go_sem]) rfl ⟨_, rfl, HF.out.mono (by go_grown), by go_grown⟩
set_option maxHeartbeats 1000000 in
theorem total_any (k : Nat) : ∀ (qs : List Rat) (n : Nat) (a : Option Addr) (c : Nat) (w : World), qs.length = n → n ≤ k → n ≤ c → n ≤ 1048576 → FracsAt w a qs → AllSmall qs → Env w →
    Calls Tryz.prog 122 #[.slice a n c] w (GivesF w (sumQ qs)) := by
  induction k with
  | zero =>
    intro qs n a c w hn hk _ _ _ _ _
    obtain rfl : n = 0 := by omega
    obtain rfl := List.eq_nil_of_length_eq_zero hn
    exact total_nil c a w
  | succ k ih =>
    intro qs n a c w hn hk hc hm hf hs hE
    by_cases h0 : n = 0
    · subst h0
      obtain rfl := List.eq_nil_of_length_eq_zero hn
      exact total_nil c a w
    have hne : qs ≠ [] := by rintro rfl; simp at hn; omega
    obtain ⟨b, off, rfl, hlt, _⟩ := hf hne
    by_cases h1 : n = 1
    · subst h1
      obtain ⟨q, rfl⟩ := List.length_eq_one_iff.1 hn
      rw [show sumQ [q] = q by show q + 0 = q; grind]
      exact total_one b off c q w hf
    have e0 : ((n : Int) == 0) = false := by rw [beq_eq_false_iff_ne]; omega
    have e1 : ((n : Int) == 1) = false := by rw [beq_eq_false_iff_ne]; omega
    rw [← sum_halves qs (n / 2)]
    have H1 := Lib.hid (fun W (hW : Below w.heap.size w W) => ih (qs.take (n / 2)) (n / 2) (some ⟨b, off, none⟩) c W (by rw [List.length_take]; omega) (by omega) (by omega) (by omega) ((hf.mono hW).take _) (hs.take _) (hE.mono hW))
    have H2 := Lib.hid (fun W (hW : Below w.heap.size w W) => ih (qs.drop (n / 2)) (n - n / 2) (some ⟨b, off + n / 2 * 3, none⟩) (c - n / 2) W (by rw [List.length_drop]; omega) (by omega) (by omega) (by omega) ((hf.mono hW).drop _) (hs.drop _) (hE.mono hW))
    have HA := Lib.hid (fun W u v (hW : Below w.heap.size w W) (hu : FracAt W u (sumQ (qs.take (n / 2)))) (hv : FracAt W v (sumQ (qs.drop (n / 2)))) => Add_any hu hv (hs.take _).all (hs.drop _).all (hE.mono hW))
    have j1 : (0 : Int) ≤ (n : Int) / 2 := by omega
    have j2 : ((n : Int) / 2).toNat = n / 2 := by omega
    have j3 : (n : Int) / 2 ≤ (n : Int) := by omega
    have j4 : (n : Int) / 2 ≤ (c : Int) := by omega
    have hcn : ¬ c = n / 2 := by omega
    have HM0 := Lib.hid ((Mem.start w).new' (n := w.heap.size) (by simp) 97 [.bool false, .slice none 0 0, .slice none 0 0])
    clear hn hf hs hE hne h0 h1
    generalize sumQ (qs.take (n / 2)) = p at *
    generalize sumQ (qs.drop (n / 2)) = r at *
    go_enter Tryz.func122, Tryz.ntmps122
    go_wp2_with fail
    generalize hW : w.alloc (.cells _ 97) = W at HM0 ⊢
    clear hW
    have g0 : W.heap.size < W.heap.size + 1 := Nat.lt_succ_self _
    go_region_held3 (fun w' => W.heap.size < W.heap.size + 1) (exact g0)
      (first
        | (go_at_call 122; (with_reducible refine (H1.out _ HM0.out.drew.d).mono ?_); rintro e w1 ⟨v, rfl, hv, hb1⟩; have HM1 := Lib.hid (HM0.out.drew.call hb1); have HV1 := Lib.hid hv; obtain ⟨a9, c9, b9, m9, k9, rfl, _, _⟩ := hv)
        | (go_at_call 122; (with_reducible refine (H2.out _ HM1.out.d).mono ?_); rintro e w2 ⟨v, rfl, hv, hb2⟩; have HM2 := Lib.hid (HM1.out.call hb2); have HV2 := Lib.hid hv; have HV1 := Lib.hid (HV1.out.mono hb2); obtain ⟨a8, c8, b8, m8, k8, rfl, _, _⟩ := hv)
        | (go_at_call 62; (with_reducible refine (HA.out _ _ _ HM2.out.d HV1.out HV2.out).mono ?_); rintro e w3 ⟨v, rfl, hv, hb3⟩; have HM3 := Lib.hid (HM2.out.call hb3); have HV := Lib.hid hv; obtain ⟨a7, c7, b7, m7, k7, rfl, _, _⟩ := hv; obtain ⟨r0, r1, r2⟩ := S3 (HM3.out.box (i := 0) rfl); have r3 := (HM3.out.box (i := 0) rfl).free 0; have r4 := (HM3.out.box (i := 0) rfl).free 1; have r5 := (HM3.out.box (i := 0) rfl).free 2))
    clear hb1 hb2 hb3
    generalize hXe : World.setCell (World.setCell (World.setCell w3 _ _) _ _) _ _ = X
    have hX := fill3 (HM3.out.box (i := 0) rfl) hXe
    clear hXe
    go_wp2_with fail
    exact bodyPost_ret (v := _) (results_cell Tryz.results122 _ _ _ _ rfl (box_load _ hX.box Tryz.underlying97 rfl infoF)) rfl ⟨_, rfl, HV.out.filled (HM3.out.box (i := 0) rfl) zF3_no hX, (HM3.out.d).trans (hX.below _ (by first | exact Nat.le_refl _ | omega))⟩
end Go.Proofs.YtlncagdekfjinaaGreatDoor
namespace Go.Proofs.YtlncagdekfjinaaGreatDoor
open Go.RowKit Go.Sort Dg Fr
theorem two_at {w : World} {a0 a1 a2 b0 b1 b2 : Value} {x y : Rat} (hx : FracAt w (.agg #[a0, a1, a2]) x) (hy : FracAt w (.agg #[b0, b1, b2]) y) :
    FracsAt (w.alloc (.cells #[a0, a1, a2, b0, b1, b2] 97)) (some ⟨w.heap.size, 0, none⟩) [x, y] := fun _ => by
  have hB := Box.new w 97 #[a0, a1, a2, b0, b1, b2]
  have hb : Below w.heap.size w (w.alloc (.cells #[a0, a1, a2, b0, b1, b2] 97)) := (Below.refl _ _).alloc (Nat.le_refl _) _
  refine ⟨w.heap.size, 0, rfl, by simp, fun i hi => ?_⟩
  match i, hi with
  | 0, _ => exact ⟨a0, a1, a2, hB.at_ rfl, hB.at_ rfl, hB.at_ rfl, hx.mono hb⟩
  | 1, _ => exact ⟨b0, b1, b2, hB.at_ rfl, hB.at_ rfl, hB.at_ rfl, hy.mono hb⟩
theorem Small.zero : Small 0 := ⟨by decide, by decide⟩
theorem small_two {x y : Rat} (hx : Small x) (hy : Small y) (hxy : Small (x + y)) : AllSmall [x, y] := by
  have e1 : x + 0 = x := by grind
  have e2 : y + 0 = y := by grind
  intro i j
  match i with
  | 0 =>
    match j with
    | 0 => exact Small.zero
    | 1 => show Small (x + 0); rw [e1]; exact hx
    | j + 2 => show Small (x + (y + sumQ (List.take j []))); rw [List.take_nil]; show Small (x + (y + 0)); rw [e2]; exact hxy
  | 1 =>
    match j with
    | 0 => exact Small.zero
    | j + 1 => show Small (y + sumQ (List.take j [])); rw [List.take_nil]; show Small (y + 0); rw [e2]; exact hy
  | i + 2 => show Small (sumQ (List.take j (List.drop i []))); rw [List.drop_nil, List.take_nil]; exact Small.zero
theorem total_two {w : World} {a0 a1 a2 b0 b1 b2 : Value} {x y : Rat} (hx : FracAt w (.agg #[a0, a1, a2]) x) (hy : FracAt w (.agg #[b0, b1, b2]) y) (hsx : Small x) (hsy : Small y) (hxy : Small (x + y)) (hE : Env w) :
    Calls Tryz.prog 122 #[.slice (some ⟨w.heap.size, 0, none⟩) 2 2] (w.alloc (.cells #[a0, a1, a2, b0, b1, b2] 97)) (GivesF w (x + y)) := by
  have hb : Below w.heap.size w (w.alloc (.cells #[a0, a1, a2, b0, b1, b2] 97)) := (Below.refl _ _).alloc (Nat.le_refl _) _
  have h := total_any 2 [x, y] 2 (some ⟨w.heap.size, 0, none⟩) 2 _ rfl (Nat.le_refl _) (Nat.le_refl _) (by omega) (two_at hx hy) (small_two hsx hsy hxy) (hE.mono hb)
  rw [show sumQ [x, y] = x + y by show x + (y + 0) = x + y; grind] at h
  exact h.mono fun e w' ⟨v, h1, h2, h3⟩ => ⟨v, h1, h2, hb.trans (h3.mono hb.size)⟩
set_option maxHeartbeats 2000000 in
theorem Sub_any {w : World} {u v : Value} {x y : Rat} (hx : FracAt w u x) (hy : FracAt w v y) (hsx : Small x) (hsy : Small y) (hxy : Small (x - y)) (hE : Env w) : Calls Tryz.prog 60 #[u, v] w (GivesF w (x - y)) := by
  rw [Rat.sub_eq_add_neg] at hxy ⊢
  have HN := Lib.hid (fun W (hW : Below w.heap.size w W) => Neg_any (hy.mono hW) hsy)
  obtain ⟨sx, ax, cx, nx, bx, mx, kx, dx, rfl, hxa, x1, x2, x3, hxd, _⟩ := hx.parts
  obtain ⟨sy, ay, cy, ny, bY, my, ky, dy, rfl, hya, y1, y2, y3, hyd, _⟩ := hy.parts
  have HT := Lib.hid (fun W b0 b1 b2 (hW : Below w.heap.size w W) (hv : FracAt W (.agg #[b0, b1, b2]) (-y)) => total_two (hxa.mono hW) hv hsx hsy.neg hxy (hE.mono hW))
  clear hx hy hxa hya hxd hyd x1 x2 x3 y1 y2 y3 hE hsx hsy hxy
  have HM0 := Lib.hid ((((Mem.start w).new' (n := w.heap.size) (by simp) 97 [.bool sx, .slice ax (nl nx) cx, .slice bx mx kx]).new' (n := w.heap.size + 1) (by simp) 97 [.bool sy, .slice ay (nl ny) cy, .slice bY my ky]).new' (n := w.heap.size + 1 + 1) (by simp) 97 [.bool false, .slice none 0 0, .slice none 0 0])
  go_enter Tryz.func60, Tryz.ntmps60
  go_wp2_with fail
  generalize hW : ((w.alloc (.cells _ 97)).alloc (.cells _ 97)).alloc (.cells _ 97) = W at HM0 ⊢
  clear hW
  have ne1 : ¬ w.heap.size = w.heap.size + 1 + 1 := by omega
  have ne2 : ¬ w.heap.size + 1 + 1 = w.heap.size := by omega
  obtain ⟨j0, j1, j2⟩ := S3 (HM0.out.box (i := 1) rfl)
  obtain ⟨k0, k1, k2⟩ := S3 (HM0.out.box (i := 2) rfl)
  go_region_held3 (fun w' => w'.cell? ⟨w.heap.size + 1, 0, none⟩ = some (.bool sy) ∧ w'.cell? ⟨w.heap.size + 1, 1, none⟩ = some (.slice ay (nl ny) cy) ∧ w'.cell? ⟨w.heap.size + 1, 2, none⟩ = some (.slice bY my ky) ∧ w'.cell? ⟨w.heap.size, 0, none⟩ = some (.bool sx) ∧ w'.cell? ⟨w.heap.size, 1, none⟩ = some (.slice ax (nl nx) cx) ∧ w'.cell? ⟨w.heap.size, 2, none⟩ = some (.slice bx mx kx)) (first | exact ⟨j0, j1, j2, k0, k1, k2⟩ | go_keep)
    (first
      | (go_at_call 123; (with_reducible refine (HN.out _ HM0.out.drew.d).mono ?_); rintro e w1 ⟨v, rfl, hv, hb1⟩; have HM1 := Lib.hid (HM0.out.drew.call hb1); have HV1 := Lib.hid hv; obtain ⟨a9, c9, b9, m9, k9, rfl, _, _⟩ := hv; obtain ⟨j0, j1, j2⟩ := S3 (HM1.out.box (i := 1) rfl); obtain ⟨k0, k1, k2⟩ := S3 (HM1.out.box (i := 2) rfl))
      | (go_at_call 122; (with_reducible refine (HT.out _ _ _ _ HM1.out.d HV1.out).mono ?_); rintro e w2 ⟨v, rfl, hv, hb2⟩; have HM2 := Lib.hid (HM1.out.call hb2); have HV := Lib.hid hv; obtain ⟨a8, c8, b8, m8, k8, rfl, _, _⟩ := hv; obtain ⟨j0, j1, j2⟩ := S3 (HM2.out.box (i := 1) rfl); obtain ⟨k0, k1, k2⟩ := S3 (HM2.out.box (i := 2) rfl); obtain ⟨r0, r1, r2⟩ := S3 (HM2.out.box (i := 0) rfl); have r3 := (HM2.out.box (i := 0) rfl).free 0; have r4 := (HM2.out.box (i := 0) rfl).free 1; have r5 := (HM2.out.box (i := 0) rfl).free 2))
  clear hb1 hb2 HV1
  generalize hXe : World.setCell (World.setCell (World.setCell w2 _ _) _ _) _ _ = X
  have hX := fill3 (HM2.out.box (i := 0) rfl) hXe
  clear hXe
  go_wp2_with fail
  exact bodyPost_ret (v := _) (results_cell Tryz.results60 _ _ _ _ rfl (box_load _ hX.box Tryz.underlying97 rfl infoF)) rfl ⟨_, rfl, HV.out.filled (HM2.out.box (i := 0) rfl) zF3_no hX, (HM2.out.d).trans (hX.below _ (by first | exact Nat.le_refl _ | omega))⟩
end Go.Proofs.YtlncagdekfjinaaGreatDoor
