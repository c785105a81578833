/- Abs, inverse, over, Div, Cmp. -/
import Derived.Test.YtlncagdekfjinaaGreatDoorFrac2
namespace Go.Proofs.YtlncagdekfjinaaGreatDoor
open Go.RowKit Go.Sort Dg Fr
theorem Small.inv {q : Rat} (h : Small q) : Small q⁻¹ := by
  obtain ⟨h1, h2⟩ := inv_parts q
  unfold Small top
  rw [h1, h2]
  split
  · exact ⟨by decide, by decide⟩
  · exact ⟨h.2, h.1⟩
theorem Small.neg {q : Rat} (h : Small q) : Small (-q) := by
  unfold Small top
  rw [show (-q).num = -q.num from rfl, show (-q).den = q.den from rfl, Int.natAbs_neg]; exact h
structure Parts (w : World) (v : Value) (q : Rat) (s : Bool) (a : Option Addr) (c n : Nat) (b : Option Addr) (m k d : Nat) : Prop where
  v : v = .agg #[.bool s, .slice a (nl n) c, .slice b m k]
  at_ : FracAt w (.agg #[.bool s, .slice a (nl n) c, .slice b m k]) q
  hs : neg q = s
  hn : top q = n
  hd : q.den = d
  digs : DigsAt w a (nl n) c n
  bot : BotAt w (.slice b m k) d
theorem FracAt.parts {w : World} {v : Value} {q : Rat} (h : FracAt w v q) : ∃ s a c n b m k d, Parts w v q s a c n b m k d := by
  have h0 := h
  obtain ⟨a, c, b, m, k, rfl, hd, hB⟩ := h
  exact ⟨_, a, c, _, b, m, k, _, rfl, h0, rfl, rfl, rfl, hd, hB⟩
set_option maxHeartbeats 1000000 in
theorem inverse_any {w : World} {v : Value} {q : Rat} (h : FracAt w v q) (hs : Small q) (hq0 : q ≠ 0) : Calls Tryz.prog 160 #[v] w (GivesF w q⁻¹) := by
  obtain ⟨i1, i2, i3⟩ := inv q hq0
  rw [i1]
  have HU := Lib.hid (fun W (hW : Below w.heap.size w W) => under_any (h.mono hW))
  obtain ⟨s, a, c, n, b, m, k, d, rfl, hat, e1, e2, e3, hd, hB⟩ := h.parts
  unfold Small at hs
  rw [e2, e3] at hs i2 ⊢
  rw [e2] at i3
  rw [e3] at HU
  rw [e1]
  obtain ⟨hs1, hs2⟩ := hs
  have HC1 := Lib.hid (fun W a c (h1 : DigsAt W a (nl d) c d) => clone_any a (nl d) c d W h1 (by omega))
  have HC2 := Lib.hid (fun W (hW : Below w.heap.size w W) => clone_any a (nl n) c n W (hd.mono hW) (by omega))
  have HQ := Lib.hid i2
  have HZ := Lib.hid i3
  clear hd hB e1 e2 e3 hat h i1 i2 i3 hq0
  have HM0 := Lib.hid (((Mem.start w).new' (n := w.heap.size) (by simp) 97 [.bool s, .slice a (nl n) c, .slice b m k]).new' (n := w.heap.size + 1) (by simp) 97 [.bool false, .slice none 0 0, .slice none 0 0])
  go_enter Tryz.func160, Tryz.ntmps160
  go_wp2_with fail
  generalize hW : (w.alloc (.cells _ 97)).alloc (.cells _ 97) = W at HM0 ⊢
  clear hW
  obtain ⟨k0, k1, k2⟩ := S3 (HM0.out.box (i := 1) rfl)
  go_region_held3 (fun w' => w'.cell? ⟨w.heap.size, 0, none⟩ = some (.bool s) ∧ w'.cell? ⟨w.heap.size, 1, none⟩ = some (.slice a (nl n) c) ∧ w'.cell? ⟨w.heap.size, 2, none⟩ = some (.slice b m k)) (first | exact ⟨k0, k1, k2⟩ | go_keep)
    (first
      | (go_at_call 125; (with_reducible refine (HU.out _ HM0.out.drew.d).mono ?_); rintro e w1 ⟨a1, c1, rfl, hd1, hb1⟩; have HM1 := Lib.hid (HM0.out.drew.call hb1); have HD1 := Lib.hid hd1; obtain ⟨k0, k1, k2⟩ := S3 (HM1.out.box (i := 1) rfl))
      | (go_at_call 171; (with_reducible refine (HC1.out _ _ _ HD1.out).mono ?_); rintro e w2 ⟨a2, c2, rfl, hd2, hb2, _⟩; have HM2 := Lib.hid (HM1.out.call hb2); have HD2 := Lib.hid hd2; obtain ⟨k0, k1, k2⟩ := S3 (HM2.out.box (i := 1) rfl))
      | (go_at_call 171; (with_reducible refine (HC2.out _ HM2.out.d).mono ?_); rintro e w3 ⟨a3, c3, rfl, hd3, hb3, _⟩; have HM3 := Lib.hid (HM2.out.call hb3); have HD2 := Lib.hid (HD2.out.mono hb3); have HD3 := Lib.hid hd3; obtain ⟨k0, k1, k2⟩ := S3 (HM3.out.box (i := 1) rfl))
      | (go_at_call 126; (with_reducible refine (build_any s a2 c2 d n _ _ HD2.out (BotIn.more HZ.out HD3.out) (.inr HQ.out)).mono ?_); rintro e w4 ⟨v, rfl, hv, hb4⟩; have HM4 := Lib.hid (HM3.out.call hb4); have HD2 := Lib.hid (HD2.out.mono hb4); have HD3 := Lib.hid (HD3.out.mono hb4); have HV := Lib.hid hv; obtain ⟨a9, c9, b9, m9, k9, rfl, _, _⟩ := hv; obtain ⟨k0, k1, k2⟩ := S3 (HM4.out.box (i := 1) rfl); obtain ⟨r0, r1, r2⟩ := S3 (HM4.out.box (i := 0) rfl); have r3 := (HM4.out.box (i := 0) rfl).free 0; have r4 := (HM4.out.box (i := 0) rfl).free 1; have r5 := (HM4.out.box (i := 0) rfl).free 2))
  clear hd1 hb1 HD1 hd2 hb2 hd3 hb3 hb4
  generalize hXe : World.setCell (World.setCell (World.setCell w4 _ _) _ _) _ _ = X
  have hX := fill3 (HM4.out.box (i := 0) rfl) hXe
  clear hXe
  go_wp2_with fail
  exact bodyPost_ret (v := _) (results_cell Tryz.results160 _ _ _ _ rfl (box_load _ hX.box Tryz.underlying97 rfl infoF)) rfl ⟨_, rfl, HV.out.filled (HM4.out.box (i := 0) rfl) zF3_no hX, (HM4.out.d).trans (hX.below _ (by first | exact Nat.le_refl _ | omega))⟩
set_option maxHeartbeats 1000000 in
theorem over_frac {w : World} {u v : Value} {x y : Rat} (hx : FracAt w u x) (hy : FracAt w v y) (hsx : Small x) (hsy : Small y) (hE : Env w) (hy0 : y ≠ 0) : Calls Tryz.prog 143 #[u, v] w (GivesF w (x / y)) := by
  rw [Rat.div_def]
  have HI := Lib.hid (fun W (hW : Below w.heap.size w W) => inverse_any (hy.mono hW) hsy hy0)
  have HMu := Lib.hid (fun W v (hW : Below w.heap.size w W) (hv : FracAt W v y⁻¹) => Mul_any (hx.mono hW) hv hsx hsy.inv (hE.mono hW))
  obtain ⟨sx, ax, cx, nx, bx, mx, kx, dx, rfl, hxa, x1, x2, x3, hxd, _⟩ := hx.parts
  obtain ⟨sy, ay, cy, ny, bY, my, ky, dy, rfl, hya, y1, y2, y3, hyd, _⟩ := hy.parts
  clear hx hy hxa hya hxd hyd x1 x2 x3 y1 y2 y3 hE hsx hsy hy0
  have HM0 := Lib.hid ((((Mem.start w).new' (n := w.heap.size) (by simp) 97 [.bool sx, .slice ax (nl nx) cx, .slice bx mx kx]).new' (n := w.heap.size + 1) (by simp) 97 [.bool sy, .slice ay (nl ny) cy, .slice bY my ky]).new' (n := w.heap.size + 1 + 1) (by simp) 97 [.bool false, .slice none 0 0, .slice none 0 0])
  go_enter Tryz.func143, Tryz.ntmps143
  go_wp2_with fail
  generalize hW : ((w.alloc (.cells _ 97)).alloc (.cells _ 97)).alloc (.cells _ 97) = W at HM0 ⊢
  clear hW
  have ne1 : ¬ w.heap.size = w.heap.size + 1 + 1 := by omega
  have ne2 : ¬ w.heap.size + 1 + 1 = w.heap.size := by omega
  obtain ⟨j0, j1, j2⟩ := S3 (HM0.out.box (i := 1) rfl)
  obtain ⟨k0, k1, k2⟩ := S3 (HM0.out.box (i := 2) rfl)
  go_region_held3 (fun w' => w'.cell? ⟨w.heap.size + 1, 0, none⟩ = some (.bool sy) ∧ w'.cell? ⟨w.heap.size + 1, 1, none⟩ = some (.slice ay (nl ny) cy) ∧ w'.cell? ⟨w.heap.size + 1, 2, none⟩ = some (.slice bY my ky) ∧ w'.cell? ⟨w.heap.size, 0, none⟩ = some (.bool sx) ∧ w'.cell? ⟨w.heap.size, 1, none⟩ = some (.slice ax (nl nx) cx) ∧ w'.cell? ⟨w.heap.size, 2, none⟩ = some (.slice bx mx kx)) (first | exact ⟨j0, j1, j2, k0, k1, k2⟩ | go_keep)
    (first
      | (go_at_call 160; (with_reducible refine (HI.out _ HM0.out.drew.d).mono ?_); rintro e w1 ⟨v, rfl, hv, hb1⟩; have HM1 := Lib.hid (HM0.out.drew.call hb1); have HV1 := Lib.hid hv; obtain ⟨a9, c9, b9, m9, k9, rfl, _, _⟩ := hv; obtain ⟨j0, j1, j2⟩ := S3 (HM1.out.box (i := 1) rfl); obtain ⟨k0, k1, k2⟩ := S3 (HM1.out.box (i := 2) rfl))
      | (go_at_call 61; (with_reducible refine (HMu.out _ _ HM1.out.d HV1.out).mono ?_); rintro e w2 ⟨v, rfl, hv, hb2⟩; have HM2 := Lib.hid (HM1.out.call hb2); have HV := Lib.hid hv; obtain ⟨a8, c8, b8, m8, k8, rfl, _, _⟩ := hv; obtain ⟨j0, j1, j2⟩ := S3 (HM2.out.box (i := 1) rfl); obtain ⟨k0, k1, k2⟩ := S3 (HM2.out.box (i := 2) rfl); obtain ⟨r0, r1, r2⟩ := S3 (HM2.out.box (i := 0) rfl); have r3 := (HM2.out.box (i := 0) rfl).free 0; have r4 := (HM2.out.box (i := 0) rfl).free 1; have r5 := (HM2.out.box (i := 0) rfl).free 2))
  clear hb1 hb2 HV1
  generalize hXe : World.setCell (World.setCell (World.setCell w2 _ _) _ _) _ _ = X
  have hX := fill3 (HM2.out.box (i := 0) rfl) hXe
  clear hXe
  go_wp2_with fail
  exact bodyPost_ret (v := _) (results_cell Tryz.results143 _ _ _ _ rfl (box_load _ hX.box Tryz.underlying97 rfl infoF)) rfl ⟨_, rfl, HV.out.filled (HM2.out.box (i := 0) rfl) zF3_no hX, (HM2.out.d).trans (hX.below _ (by first | exact Nat.le_refl _ | omega))⟩
theorem Div_any {w : World} {u v : Value} {x y : Rat} (hx : FracAt w u x) (hy : FracAt w v y) (hsx : Small x) (hsy : Small y) (hE : Env w) (hy0 : y ≠ 0) : Calls Tryz.prog 89 #[u, v] w (GivesE w (x / y)) := by
  have HZ := Lib.hid (fun W (hW : Below w.heap.size w W) => Zero_any (hy.mono hW))
  rw [decide_eq_false hy0] at HZ
  have HO := Lib.hid (fun W (hW : Below w.heap.size w W) => over_frac (hx.mono hW) (hy.mono hW) hsx hsy (hE.mono hW) hy0)
  obtain ⟨sx, ax, cx, nx, bx, mx, kx, dx, rfl, hxa, x1, x2, x3, hxd, _⟩ := hx.parts
  obtain ⟨sy, ay, cy, ny, bY, my, ky, dy, rfl, hya, y1, y2, y3, hyd, _⟩ := hy.parts
  clear hx hy hxa hya hxd hyd x1 x2 x3 y1 y2 y3 hE hsx hsy hy0
  have HM0 := Lib.hid ((((Mem.start w).new' (n := w.heap.size) (by simp) 97 [.bool sx, .slice ax (nl nx) cx, .slice bx mx kx]).new' (n := w.heap.size + 1) (by simp) 97 [.bool sy, .slice ay (nl ny) cy, .slice bY my ky]).new' (n := w.heap.size + 1 + 1) (by simp) 97 [.bool false, .slice none 0 0, .slice none 0 0])
  go_enter Tryz.func89, Tryz.ntmps89
  go_wp2_with fail
  generalize hW : ((w.alloc (.cells _ 97)).alloc (.cells _ 97)).alloc (.cells _ 97) = W at HM0 ⊢
  clear hW
  have ne1 : ¬ w.heap.size = w.heap.size + 1 + 1 := by omega
  have ne2 : ¬ w.heap.size + 1 + 1 = w.heap.size := by omega
  obtain ⟨j0, j1, j2⟩ := S3 (HM0.out.box (i := 1) rfl)
  obtain ⟨k0, k1, k2⟩ := S3 (HM0.out.box (i := 2) rfl)
  go_wp2_with fail
  refine (HZ.out _ HM0.out.d).mono ?_
  rintro e w1 ⟨rfl, hb1⟩
  have HM1 := Lib.hid (HM0.out.call hb1)
  obtain ⟨j0, j1, j2⟩ := S3 (HM1.out.box (i := 1) rfl)
  obtain ⟨k0, k1, k2⟩ := S3 (HM1.out.box (i := 2) rfl)
  clear hb1
  go_wp2_with fail
  refine (HO.out _ HM1.out.d).mono ?_
  rintro e w2 ⟨v, rfl, hv, hb2⟩
  have HM2 := Lib.hid (HM1.out.call hb2)
  have HV := Lib.hid hv
  obtain ⟨a9, c9, b9, m9, k9, rfl, _, _⟩ := hv
  obtain ⟨j0, j1, j2⟩ := S3 (HM2.out.box (i := 1) rfl)
  obtain ⟨k0, k1, k2⟩ := S3 (HM2.out.box (i := 2) rfl)
  clear hb2
  have HR2 := Lib.hid (HM2.out.box (i := 0) rfl)
  have HB2 := Lib.hid HM2.out.d
  clear HM0 HM1 HM2 k0 k1 k2 j0 j1 j2
  go_wp2_with (first | (refine wpList_box_store rfl 97 _ _ rfl (w.heap.size + 1 + 1) rfl [_, _, _] rfl _ _ HR2.out rfl infoF (frac_one _ _ _ _ _ _ _) ?_; intro X hX))
  exact bodyPost_ret (v := _) (results_cell_slot Tryz.results89 _ _ _ _ rfl (box_load _ hX.box Tryz.underlying97 rfl infoF)) rfl ⟨_, rfl, HV.out.filled (HR2.out) zF3_no hX, (HB2.out).trans (hX.below _ (by first | exact Nat.le_refl _ | omega))⟩
theorem Div_zero {w : World} {u v : Value} {x : Rat} (hx : FracAt w u x) (hy : FracAt w v 0) : Calls Tryz.prog 89 #[u, v] w fun e w' => e = .returned (.tuple #[zeroF, .int .i64 3]) ∧ Below w.heap.size w w' := by
  have HZ := Lib.hid (fun W (hW : Below w.heap.size w W) => Zero_any (hy.mono hW))
  rw [decide_eq_true rfl] at HZ
  obtain ⟨sx, ax, cx, nx, bx, mx, kx, dx, rfl, hxa, x1, x2, x3, hxd, _⟩ := hx.parts
  obtain ⟨sy, ay, cy, ny, bY, my, ky, dy, rfl, hya, y1, y2, y3, hyd, _⟩ := hy.parts
  clear hx hy hxa hya hxd hyd x1 x2 x3 y1 y2 y3
  have HM0 := Lib.hid ((((Mem.start w).new' (n := w.heap.size) (by simp) 97 [.bool sx, .slice ax (nl nx) cx, .slice bx mx kx]).new' (n := w.heap.size + 1) (by simp) 97 [.bool sy, .slice ay (nl ny) cy, .slice bY my ky]).new' (n := w.heap.size + 1 + 1) (by simp) 97 [.bool false, .slice none 0 0, .slice none 0 0])
  go_enter Tryz.func89, Tryz.ntmps89
  go_wp2_with fail
  generalize hW : ((w.alloc (.cells _ 97)).alloc (.cells _ 97)).alloc (.cells _ 97) = W at HM0 ⊢
  clear hW
  have ne1 : ¬ w.heap.size = w.heap.size + 1 + 1 := by omega
  have ne2 : ¬ w.heap.size + 1 + 1 = w.heap.size := by omega
  obtain ⟨j0, j1, j2⟩ := S3 (HM0.out.box (i := 1) rfl)
  obtain ⟨k0, k1, k2⟩ := S3 (HM0.out.box (i := 2) rfl)
  go_wp2_with fail
  refine (HZ.out _ HM0.out.d).mono ?_
  rintro e w1 ⟨rfl, hb1⟩
  have HM1 := Lib.hid (HM0.out.call hb1)
  obtain ⟨j0, j1, j2⟩ := S3 (HM1.out.box (i := 1) rfl)
  obtain ⟨k0, k1, k2⟩ := S3 (HM1.out.box (i := 2) rfl)
  clear hb1
  have HR2 := Lib.hid (HM1.out.box (i := 0) rfl)
  have HB2 := Lib.hid HM1.out.d
  clear HM0 HM1 k0 k1 k2 j0 j1 j2
  go_wp2_with (first | (refine wpList_box_store rfl 97 _ _ rfl (w.heap.size + 1 + 1) rfl [_, _, _] rfl _ _ HR2.out rfl infoF (frac_one _ _ _ _ _ _ _) ?_; intro X hX))
  exact bodyPost_ret (v := _) (results_cell_slot Tryz.results89 _ _ _ _ rfl (box_load _ hX.box Tryz.underlying97 rfl infoF)) rfl ⟨rfl, HB2.out.trans (hX.below _ (by omega))⟩
end Go.Proofs.YtlncagdekfjinaaGreatDoor
