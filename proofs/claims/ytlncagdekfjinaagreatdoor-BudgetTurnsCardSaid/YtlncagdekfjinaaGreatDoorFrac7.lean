/- Cmp and Same. -/
import Derived.Test.YtlncagdekfjinaaGreatDoorFrac6
import Derived.Test.YtlncagdekfjinaaGreatDoorFracM
import Derived.BigQuiet
namespace Go.Proofs.YtlncagdekfjinaaGreatDoor
open Go.RowKit Go.Sort Dg Fr
theorem compare_ints (x y : Int) (w : World) : Calls Tryz.prog 131 #[.int .i64 x, .int .i64 y] w fun e w' => e = .returned (.int .i64 (if x < y then -1 else if y < x then 1 else 0)) ∧ Below w.heap.size w w' :=
  (Tryz.cmp_Compare_int x y w).mono fun _ _ ⟨he, hw⟩ => ⟨he, by rw [hw]; exact Below.refl _ _⟩
theorem signQ_bd (q : Rat) : -1 ≤ signQ q ∧ signQ q ≤ 1 := by unfold signQ; split <;> (try split) <;> omega
def GivesI (w : World) (n : Int) (e : Ending) (w' : World) : Prop := e = .returned (.int .i64 n) ∧ Below w.heap.size w w'
theorem compare_gives (a b : Option Addr) (ca cb x y : Nat) (w : World) (hx : DigsAt w a (nl x) ca x) (hy : DigsAt w b (nl y) cb y) (hm : nl x ≤ 1152921504606846976) :
    Calls Tryz.prog 132 #[.slice a (nl x) ca, .slice b (nl y) cb] w (GivesI w (cmpN x y)) :=
  (compare_any a b ca cb x y w hx hy hm).mono fun _ _ ⟨he, q, hw⟩ => ⟨he, by rw [← hw]; exact below_drawn (Below.refl _ _) q⟩
set_option maxHeartbeats 2000000 in
theorem cmp_unlike {w : World} {u v : Value} {x y : Rat} (hx : FracAt w u x) (hy : FracAt w v y) (hne : signQ x ≠ signQ y) : Calls Tryz.prog 63 #[u, v] w (GivesI w (cmpQ x y)) := by
  rw [← cmp_signs hne]
  have HSx := Lib.hid (fun W (hW : Below w.heap.size w W) => Sign_any (hx.mono hW))
  have HSy := Lib.hid (fun W (hW : Below w.heap.size w W) => Sign_any (hy.mono hW))
  have hb : (signQ x != signQ y) = true := by simpa using hne
  have HC := Lib.hid (fun W => compare_ints (signQ x) (signQ y) W)
  obtain ⟨sx, ax, cx, nx, bx, mx, kx, dx, rfl, hxa, x1, x2, x3, hxd, hxb⟩ := hx.parts
  obtain ⟨sy, ay, cy, ny, bY, my, ky, dy, rfl, hya, y1, y2, y3, hyd, hyb⟩ := hy.parts
  clear hx hy hxa hya hxd hyd x1 x2 x3 y1 y2 y3 hxb hyb
  generalize (if signQ x < signQ y then (-1 : Int) else if signQ y < signQ x then 1 else 0) = R at *
  generalize signQ x = px at *
  generalize signQ y = py at *
  clear hne
  have HM0 := Lib.hid (((Mem.start w).new' (n := w.heap.size) (by simp) 97 [.bool sx, .slice ax (nl nx) cx, .slice bx mx kx]).new' (n := w.heap.size + 1) (by simp) 97 [.bool sy, .slice ay (nl ny) cy, .slice bY my ky])
  go_enter Tryz.func63, Tryz.ntmps63
  go_wp2_with fail
  generalize hW : (w.alloc (.cells _ 97)).alloc (.cells _ 97) = W at HM0 ⊢
  clear hW
  have ne1 : ¬ w.heap.size = w.heap.size + 1 := by omega
  have ne2 : ¬ w.heap.size + 1 = w.heap.size := by omega
  obtain ⟨j0, j1, j2⟩ := S3 (HM0.out.box (i := 0) rfl)
  obtain ⟨k0, k1, k2⟩ := S3 (HM0.out.box (i := 1) rfl)
  go_region_held3 (fun w' => w'.cell? ⟨w.heap.size + 1, 0, none⟩ = some (.bool sy) ∧ w'.cell? ⟨w.heap.size + 1, 1, none⟩ = some (.slice ay (nl ny) cy) ∧ w'.cell? ⟨w.heap.size + 1, 2, none⟩ = some (.slice bY my ky) ∧ w'.cell? ⟨w.heap.size, 0, none⟩ = some (.bool sx) ∧ w'.cell? ⟨w.heap.size, 1, none⟩ = some (.slice ax (nl nx) cx) ∧ w'.cell? ⟨w.heap.size, 2, none⟩ = some (.slice bx mx kx)) (first | exact ⟨j0, j1, j2, k0, k1, k2⟩ | go_keep)
    (first
      | (go_at_call 88; (with_reducible refine (HSx.out _ HM0.out.drew.d).mono ?_); rintro e w1 ⟨rfl, hb1⟩; have HM1 := Lib.hid (HM0.out.drew.call hb1); obtain ⟨j0, j1, j2⟩ := S3 (HM1.out.box (i := 0) rfl); obtain ⟨k0, k1, k2⟩ := S3 (HM1.out.box (i := 1) rfl))
      | (go_at_call 88; (with_reducible refine (HSy.out _ HM1.out.d).mono ?_); rintro e w2 ⟨rfl, hb2⟩; have HM2 := Lib.hid (HM1.out.call hb2); obtain ⟨j0, j1, j2⟩ := S3 (HM2.out.box (i := 0) rfl); obtain ⟨k0, k1, k2⟩ := S3 (HM2.out.box (i := 1) rfl)))
  clear hb1 hb2
  go_wp2_with fail
  go_region_held3 (fun w' => w'.cell? ⟨w.heap.size + 1, 0, none⟩ = some (.bool sy) ∧ w'.cell? ⟨w.heap.size + 1, 1, none⟩ = some (.slice ay (nl ny) cy) ∧ w'.cell? ⟨w.heap.size + 1, 2, none⟩ = some (.slice bY my ky) ∧ w'.cell? ⟨w.heap.size, 0, none⟩ = some (.bool sx) ∧ w'.cell? ⟨w.heap.size, 1, none⟩ = some (.slice ax (nl nx) cx) ∧ w'.cell? ⟨w.heap.size, 2, none⟩ = some (.slice bx mx kx)) (first | exact ⟨j0, j1, j2, k0, k1, k2⟩ | go_keep)
    (first
      | (go_at_call 88; (with_reducible refine (HSx.out _ HM2.out.drew.d).mono ?_); rintro e w3 ⟨rfl, hb3⟩; have HM3 := Lib.hid (HM2.out.drew.call hb3); obtain ⟨j0, j1, j2⟩ := S3 (HM3.out.box (i := 0) rfl); obtain ⟨k0, k1, k2⟩ := S3 (HM3.out.box (i := 1) rfl))
      | (go_at_call 88; (with_reducible refine (HSy.out _ HM3.out.d).mono ?_); rintro e w4 ⟨rfl, hb4⟩; have HM4 := Lib.hid (HM3.out.call hb4); obtain ⟨j0, j1, j2⟩ := S3 (HM4.out.box (i := 0) rfl); obtain ⟨k0, k1, k2⟩ := S3 (HM4.out.box (i := 1) rfl))
      | (go_at_call 131; (with_reducible refine (HC.out _).mono ?_); rintro e w5 ⟨rfl, hb5⟩; have HM5 := Lib.hid (HM4.out.call hb5); obtain ⟨j0, j1, j2⟩ := S3 (HM5.out.box (i := 0) rfl); obtain ⟨k0, k1, k2⟩ := S3 (HM5.out.box (i := 1) rfl)))
  clear hb3 hb4 hb5
  go_wp2
  go_ret
  exact ⟨rfl, HM5.out.d⟩
theorem mul_sign (p c : Int) (hp : -1 ≤ p ∧ p ≤ 1) (hc : -1 ≤ c ∧ c ≤ 1) : IntKind.i64.wrap (p * c) = p * c := by
  have : p * c = -1 ∨ p * c = 0 ∨ p * c = 1 := by
    rcases (by omega : p = -1 ∨ p = 0 ∨ p = 1) with rfl | rfl | rfl <;> rcases (by omega : c = -1 ∨ c = 0 ∨ c = 1) with rfl | rfl | rfl <;> simp
  rcases this with h | h | h <;> rw [h] <;> rfl
theorem cmpN_bd (x y : Nat) : -1 ≤ cmpN x y ∧ cmpN x y ≤ 1 := by unfold cmpN; split <;> (try split) <;> omega
set_option maxHeartbeats 4000000 in
theorem cmp_like {w : World} {u v : Value} {x y : Rat} (hx : FracAt w u x) (hy : FracAt w v y) (hsx : Small x) (hsy : Small y) (hne : signQ x = signQ y) : Calls Tryz.prog 63 #[u, v] w (GivesI w (cmpQ x y)) := by
  have hR : signQ x * cmpN (top x * y.den) (top y * x.den) = cmpQ x y := cmp_tops hne
  have HSx := Lib.hid (fun W (hW : Below w.heap.size w W) => Sign_any (hx.mono hW))
  have HSy := Lib.hid (fun W (hW : Below w.heap.size w W) => Sign_any (hy.mono hW))
  have HUx := Lib.hid (fun W (hW : Below w.heap.size w W) => under_any (hx.mono hW))
  have HUy := Lib.hid (fun W (hW : Below w.heap.size w W) => under_any (hy.mono hW))
  have hb : (signQ x != signQ y) = false := by simpa using hne
  have hwr := mul_sign _ _ (signQ_bd x) (cmpN_bd (top x * y.den) (top y * x.den))
  obtain ⟨sx, ax, cx, nx, bx, mx, kx, dx, rfl, hxa, x1, x2, x3, hxd, hxb⟩ := hx.parts
  obtain ⟨sy, ay, cy, ny, bY, my, ky, dy, rfl, hya, y1, y2, y3, hyd, hyb⟩ := hy.parts
  obtain ⟨sx1, sx2⟩ := hsx
  obtain ⟨sy1, sy2⟩ := hsy
  have z1 := nl_mul_le (top x) y.den
  have z2 := nl_mul_le (top y) x.den
  rw [x2] at sx1 hR hwr z1
  rw [x3] at sx2 hR hwr z2 HUx
  rw [y2] at sy1 hR hwr z2
  rw [y3] at sy2 hR hwr z1 HUy
  have HX := Lib.hid hxd
  have HY := Lib.hid hyd
  have HR := Lib.hid hR
  have HWr := Lib.hid hwr
  clear hx hy hxa hya hxd hyd x1 x2 x3 y1 y2 y3 hxb hyb hR hwr
  generalize signQ x = px at *
  generalize signQ y = py at *
  clear hne
  have HM0 := Lib.hid (((Mem.start w).new' (n := w.heap.size) (by simp) 97 [.bool sx, .slice ax (nl nx) cx, .slice bx mx kx]).new' (n := w.heap.size + 1) (by simp) 97 [.bool sy, .slice ay (nl ny) cy, .slice bY my ky])
  have HMx := Lib.hid (fun W a b c d (h1 : DigsAt W a (nl (nx)) c (nx)) (h2 : DigsAt W b (nl (dy)) d (dy)) => mul_any a b c d (nx) (dy) W h1 h2 (by omega) (by omega) (by omega))
  have HMy := Lib.hid (fun W a b c d (h1 : DigsAt W a (nl (ny)) c (ny)) (h2 : DigsAt W b (nl (dx)) d (dx)) => mul_any a b c d (ny) (dx) W h1 h2 (by omega) (by omega) (by omega))
  have HC := Lib.hid (fun W a b c d (h1 : DigsAt W a (nl (nx * dy)) c (nx * dy)) (h2 : DigsAt W b (nl (ny * dx)) d (ny * dx)) => compare_gives a b c d (nx * dy) (ny * dx) W h1 h2 (by omega))
  rw [← HR.out, ← HWr.out]
  go_enter Tryz.func63, Tryz.ntmps63
  go_wp2_with fail
  generalize hW : (w.alloc (.cells _ 97)).alloc (.cells _ 97) = W at HM0 ⊢
  clear hW
  have ne1 : ¬ w.heap.size = w.heap.size + 1 := by omega
  have ne2 : ¬ w.heap.size + 1 = w.heap.size := by omega
  obtain ⟨j0, j1, j2⟩ := S3 (HM0.out.box (i := 0) rfl)
  obtain ⟨k0, k1, k2⟩ := S3 (HM0.out.box (i := 1) rfl)
  go_region_held3 (fun w' => w'.cell? ⟨w.heap.size + 1, 0, none⟩ = some (.bool sy) ∧ w'.cell? ⟨w.heap.size + 1, 1, none⟩ = some (.slice ay (nl ny) cy) ∧ w'.cell? ⟨w.heap.size + 1, 2, none⟩ = some (.slice bY my ky) ∧ w'.cell? ⟨w.heap.size, 0, none⟩ = some (.bool sx) ∧ w'.cell? ⟨w.heap.size, 1, none⟩ = some (.slice ax (nl nx) cx) ∧ w'.cell? ⟨w.heap.size, 2, none⟩ = some (.slice bx mx kx)) (first | exact ⟨j0, j1, j2, k0, k1, k2⟩ | go_keep)
    (first
      | (go_at_call 88; (with_reducible refine (HSx.out _ HM0.out.drew.d).mono ?_); rintro e w1 ⟨rfl, hb1⟩; have HM1 := Lib.hid (HM0.out.drew.call hb1); obtain ⟨j0, j1, j2⟩ := S3 (HM1.out.box (i := 0) rfl); obtain ⟨k0, k1, k2⟩ := S3 (HM1.out.box (i := 1) rfl))
      | (go_at_call 88; (with_reducible refine (HSy.out _ HM1.out.d).mono ?_); rintro e w2 ⟨rfl, hb2⟩; have HM2 := Lib.hid (HM1.out.call hb2); obtain ⟨j0, j1, j2⟩ := S3 (HM2.out.box (i := 0) rfl); obtain ⟨k0, k1, k2⟩ := S3 (HM2.out.box (i := 1) rfl)))
  clear hb1 hb2
  go_wp2_with fail
  go_region_held3 (fun w' => w'.cell? ⟨w.heap.size + 1, 0, none⟩ = some (.bool sy) ∧ w'.cell? ⟨w.heap.size + 1, 1, none⟩ = some (.slice ay (nl ny) cy) ∧ w'.cell? ⟨w.heap.size + 1, 2, none⟩ = some (.slice bY my ky) ∧ w'.cell? ⟨w.heap.size, 0, none⟩ = some (.bool sx) ∧ w'.cell? ⟨w.heap.size, 1, none⟩ = some (.slice ax (nl nx) cx) ∧ w'.cell? ⟨w.heap.size, 2, none⟩ = some (.slice bx mx kx)) (first | exact ⟨j0, j1, j2, k0, k1, k2⟩ | go_keep)
    (first
      | (go_at_call 88; (with_reducible refine (HSx.out _ HM2.out.drew.d).mono ?_); rintro e w3 ⟨rfl, hb3⟩; have HM3 := Lib.hid (HM2.out.drew.call hb3); obtain ⟨j0, j1, j2⟩ := S3 (HM3.out.box (i := 0) rfl); obtain ⟨k0, k1, k2⟩ := S3 (HM3.out.box (i := 1) rfl))
      | (go_at_call 125; (with_reducible refine (HUy.out _ HM3.out.d).mono ?_); rintro e w4 ⟨a1, c1, rfl, hd1, hb4⟩; have HM4 := Lib.hid (HM3.out.call hb4); have HD1 := Lib.hid hd1; obtain ⟨j0, j1, j2⟩ := S3 (HM4.out.box (i := 0) rfl); obtain ⟨k0, k1, k2⟩ := S3 (HM4.out.box (i := 1) rfl))
      | (go_at_call 127; (with_reducible refine (HMx.out _ _ _ _ _ (HX.out.mono HM4.out.d) HD1.out).mono ?_); rintro e w5 ⟨a2, c2, rfl, hd2, hb5⟩; have HM5 := Lib.hid (HM4.out.call hb5); have HD2 := Lib.hid hd2; obtain ⟨j0, j1, j2⟩ := S3 (HM5.out.box (i := 0) rfl); obtain ⟨k0, k1, k2⟩ := S3 (HM5.out.box (i := 1) rfl))
      | (go_at_call 125; (with_reducible refine (HUx.out _ HM5.out.d).mono ?_); rintro e w6 ⟨a3, c3, rfl, hd3, hb6⟩; have HM6 := Lib.hid (HM5.out.call hb6); have HD2 := Lib.hid (HD2.out.mono hb6); have HD3 := Lib.hid hd3; obtain ⟨j0, j1, j2⟩ := S3 (HM6.out.box (i := 0) rfl); obtain ⟨k0, k1, k2⟩ := S3 (HM6.out.box (i := 1) rfl))
      | (go_at_call 127; (with_reducible refine (HMy.out _ _ _ _ _ (HY.out.mono HM6.out.d) HD3.out).mono ?_); rintro e w7 ⟨a4, c4, rfl, hd4, hb7⟩; have HM7 := Lib.hid (HM6.out.call hb7); have HD2 := Lib.hid (HD2.out.mono hb7); have HD4 := Lib.hid hd4; obtain ⟨j0, j1, j2⟩ := S3 (HM7.out.box (i := 0) rfl); obtain ⟨k0, k1, k2⟩ := S3 (HM7.out.box (i := 1) rfl))
      | (go_at_call 132; (with_reducible refine (HC.out _ _ _ _ _ HD2.out HD4.out).mono ?_); rintro e w8 ⟨rfl, hb8⟩; have HM8 := Lib.hid (HM7.out.call hb8); have HD2 := Lib.hid (HD2.out.mono hb8); obtain ⟨j0, j1, j2⟩ := S3 (HM8.out.box (i := 0) rfl); obtain ⟨k0, k1, k2⟩ := S3 (HM8.out.box (i := 1) rfl)))
  clear hb3 hb4 hb5 hb6 hb7 hb8 hd1 hd2 hd3 hd4
  go_wp2
  go_ret
  exact ⟨rfl, HM8.out.d⟩
theorem Cmp_any {w : World} {u v : Value} {x y : Rat} (hx : FracAt w u x) (hy : FracAt w v y) (hsx : Small x) (hsy : Small y) : Calls Tryz.prog 63 #[u, v] w (GivesI w (cmpQ x y)) := by
  by_cases h : signQ x = signQ y
  · exact cmp_like hx hy hsx hsy h
  · exact cmp_unlike hx hy h
def bn (d : Nat) : Nat := if d = 1 then 0 else d
theorem BotAt.digs {w : World} {a : Option Addr} {m c d : Nat} (h : BotAt w (.slice a m c) d) : m = nl (bn d) ∧ DigsAt w a (nl (bn d)) c (bn d) := by
  unfold bn
  rcases h with ⟨rfl, e⟩ | ⟨hd, a', c', e, hD⟩
  · cases e; exact ⟨rfl, DigsAt.zero _ _ _⟩
  · cases e; rw [if_neg hd]; exact ⟨rfl, hD⟩
end Go.Proofs.YtlncagdekfjinaaGreatDoor
