/- Mul and Add. -/
import Derived.Test.YtkkgibnoggickaaGreatDoorFrac3
namespace Go.Proofs.YtkkgibnoggickaaGreatDoor
open Go.RowKit Go.Sort Dg Fr

theorem BotIn.more {w : World} {a : Option Addr} {c d : Nat} (hd : d ≠ 0) (h : DigsAt w a (nl d) c d) : BotIn w (.slice a (nl d) c) d := .inr ⟨hd, _, _, rfl, h⟩
theorem BotIn.one (w : World) : BotIn w (.slice none 0 0) 1 := .inl ⟨rfl, rfl⟩
theorem nl_div (x g : Nat) : nl (x / g) ≤ nl x := nl_mono (Nat.div_le_self _ _)

set_option maxHeartbeats 2000000 in
theorem Mul_any {w : World} {u v : Value} {x y : Rat} (hx : FracAt w u x) (hy : FracAt w v y) (hsx : Small x) (hsy : Small y) (hE : Env w) : Calls Tryz.prog 23 #[u, v] w (GivesF w (x * y)) := by
  obtain ⟨e1, e2, e3⟩ := prod (x := x) (y := y) rfl rfl
  rw [e1, show (neg x != neg y) = (!(neg x == neg y)) from rfl]
  have HUx := Lib.hid (fun W (hW : Below w.heap.size w W) => under_any (hx.mono hW))
  have HUy := Lib.hid (fun W (hW : Below w.heap.size w W) => under_any (hy.mono hW))
  obtain ⟨ax, cx, bx, mx, kx, rfl, hdx, _⟩ := hx
  obtain ⟨ay, cy, by_, my, ky, rfl, hdy, _⟩ := hy
  have hnx := den_ne x
  have hny := den_ne y
  obtain ⟨hx1, hx2⟩ := hsx
  obtain ⟨hy1, hy2⟩ := hsy
  have HCx := Lib.hid (fun W a c (hW : Below w.heap.size w W) (hd : DigsAt W a (nl y.den) c y.den) => cancel_any ax a cx c (top x) y.den W (hdx.mono hW) hd (by omega) (by omega) hny (hE.mono hW))
  have HCy := Lib.hid (fun W a c (hW : Below w.heap.size w W) (hd : DigsAt W a (nl x.den) c x.den) => cancel_any ay a cy c (top y) x.den W (hdy.mono hW) hd (by omega) (by omega) hnx (hE.mono hW))
  have q1 := nl_div (top x) (Nat.gcd (top x) y.den)
  have q2 := nl_div (top y) (Nat.gcd (top y) x.den)
  have q3 := nl_div x.den (Nat.gcd (top y) x.den)
  have q4 := nl_div y.den (Nat.gcd (top x) y.den)
  have HQ := Lib.hid e2
  have HZ := Lib.hid e3
  clear e1 e2 e3 hdx hdy hnx hny
  generalize neg x = sx at *
  generalize neg y = sy at *
  generalize top x / Nat.gcd (top x) y.den = p1 at *
  generalize top y / Nat.gcd (top y) x.den = p2 at *
  generalize x.den / Nat.gcd (top y) x.den = p3 at *
  generalize y.den / Nat.gcd (top x) y.den = p4 at *
  generalize top x = nx at *
  generalize top y = ny at *
  generalize x.den = dx at *
  generalize y.den = dy at *
  generalize by_ = bY at *
  have HM0 := Lib.hid ((((Mem.start w).new' (n := w.heap.size) (by simp) 28 [.bool sx, .slice ax (nl nx) cx, .slice bx mx kx]).new' (n := w.heap.size + 1) (by simp) 28 [.bool sy, .slice ay (nl ny) cy, .slice bY my ky]).new' (n := w.heap.size + 1 + 1) (by simp) 28 [.bool false, .slice none 0 0, .slice none 0 0])
  go_enter Tryz.func23, Tryz.ntmps23
  go_wp2_with fail
  generalize hW : ((w.alloc (.cells _ 28)).alloc (.cells _ 28)).alloc (.cells _ 28) = W at HM0 ⊢
  clear hW hE
  have ne1 : ¬ w.heap.size = w.heap.size + 1 + 1 := by omega
  have ne2 : ¬ w.heap.size + 1 + 1 = w.heap.size := by omega
  obtain ⟨j0, j1, j2⟩ := S3 (HM0.out.box (i := 1) rfl)
  obtain ⟨k0, k1, k2⟩ := S3 (HM0.out.box (i := 2) rfl)
  go_region_held3 (fun w' => w'.cell? ⟨w.heap.size + 1, 0, none⟩ = some (.bool sy) ∧ w'.cell? ⟨w.heap.size + 1, 1, none⟩ = some (.slice ay (nl ny) cy) ∧ w'.cell? ⟨w.heap.size + 1, 2, none⟩ = some (.slice bY my ky) ∧ w'.cell? ⟨w.heap.size, 0, none⟩ = some (.bool sx) ∧ w'.cell? ⟨w.heap.size, 1, none⟩ = some (.slice ax (nl nx) cx) ∧ w'.cell? ⟨w.heap.size, 2, none⟩ = some (.slice bx mx kx)) (first | exact ⟨j0, j1, j2, k0, k1, k2⟩ | go_keep)
    (first
      | (go_at_call 93; (with_reducible refine (HUy.out _ HM0.out.drew.d).mono ?_); rintro e w1 ⟨a1, c1, rfl, hd1, hb1⟩; have HM1 := Lib.hid (HM0.out.drew.call hb1); have HD1 := Lib.hid hd1; obtain ⟨j0, j1, j2⟩ := S3 (HM1.out.box (i := 1) rfl); obtain ⟨k0, k1, k2⟩ := S3 (HM1.out.box (i := 2) rfl))
      | (go_at_call 92; (with_reducible refine (HCx.out _ _ _ HM1.out.d HD1.out).mono ?_); rintro e w2 ⟨a2, c2, a3, c3, rfl, hd2, hd3, hb2⟩; have HM2 := Lib.hid (HM1.out.call hb2); have HD2 := Lib.hid hd2; have HD3 := Lib.hid hd3; obtain ⟨j0, j1, j2⟩ := S3 (HM2.out.box (i := 1) rfl); obtain ⟨k0, k1, k2⟩ := S3 (HM2.out.box (i := 2) rfl)))
  clear hd1 hb1 HD1 hd2 hd3 hb2 HM0 HM1 HUy HCx
  go_wp2_with fail
  go_region_held3 (fun w' => w'.cell? ⟨w.heap.size + 1, 0, none⟩ = some (.bool sy) ∧ w'.cell? ⟨w.heap.size + 1, 1, none⟩ = some (.slice ay (nl ny) cy) ∧ w'.cell? ⟨w.heap.size + 1, 2, none⟩ = some (.slice bY my ky) ∧ w'.cell? ⟨w.heap.size, 0, none⟩ = some (.bool sx) ∧ w'.cell? ⟨w.heap.size, 1, none⟩ = some (.slice ax (nl nx) cx) ∧ w'.cell? ⟨w.heap.size, 2, none⟩ = some (.slice bx mx kx)) (first | exact ⟨j0, j1, j2, k0, k1, k2⟩ | go_keep)
    (first
      | (go_at_call 93; (with_reducible refine (HUx.out _ HM2.out.drew.d).mono ?_); rintro e w3 ⟨a4, c4, rfl, hd4, hb3⟩; have HM3 := Lib.hid (HM2.out.drew.call hb3); have HD2 := Lib.hid (HD2.out.drew.mono hb3); have HD3 := Lib.hid (HD3.out.drew.mono hb3); have HD4 := Lib.hid hd4; obtain ⟨j0, j1, j2⟩ := S3 (HM3.out.box (i := 1) rfl); obtain ⟨k0, k1, k2⟩ := S3 (HM3.out.box (i := 2) rfl))
      | (go_at_call 92; (with_reducible refine (HCy.out _ _ _ HM3.out.d HD4.out).mono ?_); rintro e w4 ⟨a5, c5, a6, c6, rfl, hd5, hd6, hb4⟩; have HM4 := Lib.hid (HM3.out.call hb4); have HD2 := Lib.hid (HD2.out.mono hb4); have HD3 := Lib.hid (HD3.out.mono hb4); have HD5 := Lib.hid hd5; have HD6 := Lib.hid hd6; obtain ⟨j0, j1, j2⟩ := S3 (HM4.out.box (i := 1) rfl); obtain ⟨k0, k1, k2⟩ := S3 (HM4.out.box (i := 2) rfl)))
  clear hd4 hb3 HD4 hd5 hd6 hb4 HM2 HM3 HUx HCy
  go_wp2_with fail
  have HMa := Lib.hid (fun W a b c d (h1 : DigsAt W a (nl (p1)) c (p1)) (h2 : DigsAt W b (nl (p2)) d (p2)) => mul_any a b c d (p1) (p2) W h1 h2 (by omega) (by omega) (by omega))
  have HMb := Lib.hid (fun W a b c d (h1 : DigsAt W a (nl (p3)) c (p3)) (h2 : DigsAt W b (nl (p4)) d (p4)) => mul_any a b c d (p3) (p4) W h1 h2 (by omega) (by omega) (by omega))
  go_region_held3 (fun w' => w'.cell? ⟨w.heap.size + 1, 0, none⟩ = some (.bool sy) ∧ w'.cell? ⟨w.heap.size + 1, 1, none⟩ = some (.slice ay (nl ny) cy) ∧ w'.cell? ⟨w.heap.size + 1, 2, none⟩ = some (.slice bY my ky) ∧ w'.cell? ⟨w.heap.size, 0, none⟩ = some (.bool sx) ∧ w'.cell? ⟨w.heap.size, 1, none⟩ = some (.slice ax (nl nx) cx) ∧ w'.cell? ⟨w.heap.size, 2, none⟩ = some (.slice bx mx kx)) (first | exact ⟨j0, j1, j2, k0, k1, k2⟩ | go_keep)
    (first
      | (go_at_call 95; (with_reducible refine (HMa.out _ _ _ _ _ HD2.out.drew HD5.out.drew).mono ?_); rintro e w5 ⟨a7, c7, rfl, hd7, hb5⟩; have HM5 := Lib.hid (HM4.out.drew.call hb5); have HD2 := Lib.hid (HD2.out.drew.mono hb5); have HD3 := Lib.hid (HD3.out.drew.mono hb5); have HD5 := Lib.hid (HD5.out.drew.mono hb5); have HD6 := Lib.hid (HD6.out.drew.mono hb5); have HD7 := Lib.hid hd7; obtain ⟨j0, j1, j2⟩ := S3 (HM5.out.box (i := 1) rfl); obtain ⟨k0, k1, k2⟩ := S3 (HM5.out.box (i := 2) rfl))
      | (go_at_call 95; (with_reducible refine (HMb.out _ _ _ _ _ HD6.out HD3.out).mono ?_); rintro e w6 ⟨a8, c8, rfl, hd8, hb6⟩; have HM6 := Lib.hid (HM5.out.call hb6); have HD2 := Lib.hid (HD2.out.mono hb6); have HD3 := Lib.hid (HD3.out.mono hb6); have HD5 := Lib.hid (HD5.out.mono hb6); have HD6 := Lib.hid (HD6.out.mono hb6); have HD7 := Lib.hid (HD7.out.mono hb6); have HD8 := Lib.hid hd8; obtain ⟨j0, j1, j2⟩ := S3 (HM6.out.box (i := 1) rfl); obtain ⟨k0, k1, k2⟩ := S3 (HM6.out.box (i := 2) rfl))
      | (go_at_call 94; (with_reducible refine (build_any (!(sx == sy)) a7 c7 (p1 * p2) (p3 * p4) _ _ HD7.out (BotIn.more HZ.out HD8.out) (.inr HQ.out)).mono ?_); rintro e w7 ⟨v, rfl, hv, hb7⟩; have HM7 := Lib.hid (HM6.out.call hb7); have HD2 := Lib.hid (HD2.out.mono hb7); have HD3 := Lib.hid (HD3.out.mono hb7); have HD5 := Lib.hid (HD5.out.mono hb7); have HD6 := Lib.hid (HD6.out.mono hb7); have HD7 := Lib.hid (HD7.out.mono hb7); have HD8 := Lib.hid (HD8.out.mono hb7); have HV := Lib.hid hv; obtain ⟨a9, c9, b9, m9, k9, rfl, _, _⟩ := hv; obtain ⟨j0, j1, j2⟩ := S3 (HM7.out.box (i := 1) rfl); obtain ⟨k0, k1, k2⟩ := S3 (HM7.out.box (i := 2) rfl); obtain ⟨r0, r1, r2⟩ := S3 (HM7.out.box (i := 0) rfl); have r3 := (HM7.out.box (i := 0) rfl).free 0; have r4 := (HM7.out.box (i := 0) rfl).free 1; have r5 := (HM7.out.box (i := 0) rfl).free 2))
  clear hd7 hb5 hd8 hb6 hb7
  generalize hXe : World.setCell (World.setCell (World.setCell w7 _ _) _ _) _ _ = X
  have hX := fill3 (HM7.out.box (i := 0) rfl) hXe
  clear hXe
  go_wp2_with fail
  exact bodyPost_ret (v := _) (results_cell Tryz.results23 _ _ _ _ rfl (box_load _ hX.box Tryz.underlying28 rfl infoF)) rfl ⟨_, rfl, HV.out.filled (HM7.out.box (i := 0) rfl) zF3_no hX, (HM7.out.d).trans (hX.below _ (by first | exact Nat.le_refl _ | omega))⟩
end Go.Proofs.YtkkgibnoggickaaGreatDoor
