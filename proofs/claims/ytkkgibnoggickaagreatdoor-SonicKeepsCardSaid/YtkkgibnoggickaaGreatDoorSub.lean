/- Sub and Sum. -/
import Derived.Test.YtkkgibnoggickaaGreatDoorTotal
namespace Go.Proofs.YtkkgibnoggickaaGreatDoor
open Go.RowKit Go.Sort Dg Fr

theorem two_at {w : World} {a0 a1 a2 b0 b1 b2 : Value} {x y : Rat} (hx : FracAt w (.agg #[a0, a1, a2]) x) (hy : FracAt w (.agg #[b0, b1, b2]) y) :
    FracsAt (w.alloc (.cells #[a0, a1, a2, b0, b1, b2] 28)) (some ⟨w.heap.size, 0, none⟩) [x, y] := fun _ => by
  have hB := Box.new w 28 #[a0, a1, a2, b0, b1, b2]
  have hb : Below w.heap.size w (w.alloc (.cells #[a0, a1, a2, b0, b1, b2] 28)) := (Below.refl _ _).alloc (Nat.le_refl _) _
  refine ⟨w.heap.size, 0, rfl, by simp, fun i hi => ?_⟩
  match i, hi with
  | 0, _ => exact ⟨a0, a1, a2, hB.at_ rfl, hB.at_ rfl, hB.at_ rfl, hx.mono hb⟩
  | 1, _ => exact ⟨b0, b1, b2, hB.at_ rfl, hB.at_ rfl, hB.at_ rfl, hy.mono hb⟩
theorem Small.zero : Small 0 := ⟨by decide, by decide⟩
theorem small_two {x y : Rat} (hx : Small x) (hy : Small y) (hxy : Small (x + y)) : AllSmall [x, y] := by
  have e1 : x + 0 = x := by grind
  have e2 : y + 0 = y := by grind
  intro i j
  match i with
  | 0 =>
    match j with
    | 0 => exact Small.zero
    | 1 => show Small (x + 0); rw [e1]; exact hx
    | j + 2 => show Small (x + (y + sumQ (List.take j []))); rw [List.take_nil]; show Small (x + (y + 0)); rw [e2]; exact hxy
  | 1 =>
    match j with
    | 0 => exact Small.zero
    | j + 1 => show Small (y + sumQ (List.take j [])); rw [List.take_nil]; show Small (y + 0); rw [e2]; exact hy
  | i + 2 => show Small (sumQ (List.take j (List.drop i []))); rw [List.drop_nil, List.take_nil]; exact Small.zero
theorem total_two {w : World} {a0 a1 a2 b0 b1 b2 : Value} {x y : Rat} (hx : FracAt w (.agg #[a0, a1, a2]) x) (hy : FracAt w (.agg #[b0, b1, b2]) y) (hsx : Small x) (hsy : Small y) (hxy : Small (x + y)) (hE : Env w) :
    Calls Tryz.prog 90 #[.slice (some ⟨w.heap.size, 0, none⟩) 2 2] (w.alloc (.cells #[a0, a1, a2, b0, b1, b2] 28)) (GivesF w (x + y)) := by
  have hb : Below w.heap.size w (w.alloc (.cells #[a0, a1, a2, b0, b1, b2] 28)) := (Below.refl _ _).alloc (Nat.le_refl _) _
  have h := total_any 2 [x, y] 2 (some ⟨w.heap.size, 0, none⟩) 2 _ rfl (Nat.le_refl _) (Nat.le_refl _) (by omega) (two_at hx hy) (small_two hsx hsy hxy) (hE.mono hb)
  rw [show sumQ [x, y] = x + y by show x + (y + 0) = x + y; grind] at h
  exact h.mono fun e w' ⟨v, h1, h2, h3⟩ => ⟨v, h1, h2, hb.trans (h3.mono hb.size)⟩

set_option maxHeartbeats 2000000 in
theorem Sub_any {w : World} {u v : Value} {x y : Rat} (hx : FracAt w u x) (hy : FracAt w v y) (hsx : Small x) (hsy : Small y) (hxy : Small (x - y)) (hE : Env w) : Calls Tryz.prog 44 #[u, v] w (GivesF w (x - y)) := by
  rw [Rat.sub_eq_add_neg] at hxy ⊢
  have HN := Lib.hid (fun W (hW : Below w.heap.size w W) => Neg_any (hy.mono hW) hsy)
  obtain ⟨sx, ax, cx, nx, bx, mx, kx, dx, rfl, hxa, x1, x2, x3, hxd, _⟩ := hx.parts
  obtain ⟨sy, ay, cy, ny, bY, my, ky, dy, rfl, hya, y1, y2, y3, hyd, _⟩ := hy.parts
  have HT := Lib.hid (fun W b0 b1 b2 (hW : Below w.heap.size w W) (hv : FracAt W (.agg #[b0, b1, b2]) (-y)) => total_two (hxa.mono hW) hv hsx hsy.neg hxy (hE.mono hW))
  clear hx hy hxa hya hxd hyd x1 x2 x3 y1 y2 y3 hE hsx hsy hxy
  have HM0 := Lib.hid ((((Mem.start w).new' (n := w.heap.size) (by simp) 28 [.bool sx, .slice ax (nl nx) cx, .slice bx mx kx]).new' (n := w.heap.size + 1) (by simp) 28 [.bool sy, .slice ay (nl ny) cy, .slice bY my ky]).new' (n := w.heap.size + 1 + 1) (by simp) 28 [.bool false, .slice none 0 0, .slice none 0 0])
  go_enter Tryz.func44, Tryz.ntmps44
  go_wp2_with fail
  generalize hW : ((w.alloc (.cells _ 28)).alloc (.cells _ 28)).alloc (.cells _ 28) = W at HM0 ⊢
  clear hW
  have ne1 : ¬ w.heap.size = w.heap.size + 1 + 1 := by omega
  have ne2 : ¬ w.heap.size + 1 + 1 = w.heap.size := by omega
  obtain ⟨j0, j1, j2⟩ := S3 (HM0.out.box (i := 1) rfl)
  obtain ⟨k0, k1, k2⟩ := S3 (HM0.out.box (i := 2) rfl)
  go_region_held3 (fun w' => w'.cell? ⟨w.heap.size + 1, 0, none⟩ = some (.bool sy) ∧ w'.cell? ⟨w.heap.size + 1, 1, none⟩ = some (.slice ay (nl ny) cy) ∧ w'.cell? ⟨w.heap.size + 1, 2, none⟩ = some (.slice bY my ky) ∧ w'.cell? ⟨w.heap.size, 0, none⟩ = some (.bool sx) ∧ w'.cell? ⟨w.heap.size, 1, none⟩ = some (.slice ax (nl nx) cx) ∧ w'.cell? ⟨w.heap.size, 2, none⟩ = some (.slice bx mx kx)) (first | exact ⟨j0, j1, j2, k0, k1, k2⟩ | go_keep)
    (first
      | (go_at_call 89; (with_reducible refine (HN.out _ HM0.out.drew.d).mono ?_); rintro e w1 ⟨v, rfl, hv, hb1⟩; have HM1 := Lib.hid (HM0.out.drew.call hb1); have HV1 := Lib.hid hv; obtain ⟨a9, c9, b9, m9, k9, rfl, _, _⟩ := hv; obtain ⟨j0, j1, j2⟩ := S3 (HM1.out.box (i := 1) rfl); obtain ⟨k0, k1, k2⟩ := S3 (HM1.out.box (i := 2) rfl))
      | (go_at_call 90; (with_reducible refine (HT.out _ _ _ _ HM1.out.d HV1.out).mono ?_); rintro e w2 ⟨v, rfl, hv, hb2⟩; have HM2 := Lib.hid (HM1.out.call hb2); have HV := Lib.hid hv; obtain ⟨a8, c8, b8, m8, k8, rfl, _, _⟩ := hv; obtain ⟨j0, j1, j2⟩ := S3 (HM2.out.box (i := 1) rfl); obtain ⟨k0, k1, k2⟩ := S3 (HM2.out.box (i := 2) rfl); obtain ⟨r0, r1, r2⟩ := S3 (HM2.out.box (i := 0) rfl); have r3 := (HM2.out.box (i := 0) rfl).free 0; have r4 := (HM2.out.box (i := 0) rfl).free 1; have r5 := (HM2.out.box (i := 0) rfl).free 2))
  clear hb1 hb2 HV1
  generalize hXe : World.setCell (World.setCell (World.setCell w2 _ _) _ _) _ _ = X
  have hX := fill3 (HM2.out.box (i := 0) rfl) hXe
  clear hXe
  go_wp2_with fail
  exact bodyPost_ret (v := _) (results_cell Tryz.results44 _ _ _ _ rfl (box_load _ hX.box Tryz.underlying28 rfl infoF)) rfl ⟨_, rfl, HV.out.filled (HM2.out.box (i := 0) rfl) zF3_no hX, (HM2.out.d).trans (hX.below _ (by first | exact Nat.le_refl _ | omega))⟩

/-- Sum. -/
theorem Sum_any (qs : List Rat) (n : Nat) (a : Option Addr) (c : Nat) (w : World) (hn : qs.length = n) (hc : n ≤ c) (hm : n ≤ 1024) (hf : FracsAt w a qs) (hs : AllSmall qs) (hE : Env w) :
    Calls Tryz.prog 122 #[.slice a n c] w (GivesE w (sumQ qs)) := by
  have HT := Lib.hid (fun W (hW : Below w.heap.size w W) => total_any n qs n a c W hn (Nat.le_refl _) hc (by omega) (hf.mono hW) hs (hE.mono hW))
  have HM0 := Lib.hid ((Mem.start w).new' (n := w.heap.size) (by simp) 28 [.bool false, .slice none 0 0, .slice none 0 0])
  clear hf hs hE hn
  go_enter Tryz.func122, Tryz.ntmps122
  go_wp2_with fail
  refine (HT.out _ HM0.out.d).mono ?_
  rintro e w1 ⟨v, rfl, hv, hb1⟩
  have HM1 := Lib.hid (HM0.out.call hb1)
  have HV := Lib.hid hv
  obtain ⟨a9, c9, b9, m9, k9, rfl, _, _⟩ := hv
  have HR2 := Lib.hid (HM1.out.box (i := 0) rfl)
  have HB2 := Lib.hid HM1.out.d
  clear hb1 HM0 HM1
  go_wp2_with (first | (refine wpList_box_store rfl 28 _ _ rfl (w.heap.size) rfl [_, _, _] rfl _ _ HR2.out rfl infoF (frac_one _ _ _ _ _ _ _) ?_; intro X hX))
  exact bodyPost_ret (v := _) (results_cell_slot Tryz.results122 _ _ _ _ rfl (box_load _ hX.box Tryz.underlying28 rfl infoF)) rfl ⟨_, rfl, HV.out.filled (HR2.out) zF3_no hX, (HB2.out).trans (hX.below _ (by first | exact Nat.le_refl _ | omega))⟩

end Go.Proofs.YtkkgibnoggickaaGreatDoor
