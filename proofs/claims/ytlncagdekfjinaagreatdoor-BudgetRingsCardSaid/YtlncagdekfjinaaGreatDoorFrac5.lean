/- Add. -/
import Derived.Test.YtlncagdekfjinaaGreatDoorFrac2
namespace Go.Proofs.YtlncagdekfjinaaGreatDoor
open Go.RowKit Go.Sort Dg Fr
theorem sg_times (s : Bool) (n u : Nat) : sg s (n * u) = sg s n * u := by unfold sg; split <;> simp [Int.neg_mul]
theorem add_ints {x y : Rat} (hx : x.den = 1) (hy : y.den = 1) {r : Bool} {T : Nat} (h : sg r T = sg (neg x) (top x) + sg (neg y) (top y)) : x + y = frac r T 1 := by
  rw [rat_add, hx, hy, sg_num, sg_num] at *
  unfold frac
  rw [h]; simp
theorem add_knuth {x y : Rat} {r : Bool} {T : Nat} (h : sg r T = sg (neg x) (top x * (y.den / Nat.gcd x.den y.den)) + sg (neg y) (top y * (x.den / Nat.gcd x.den y.den))) :
    x + y = frac r (T / Nat.gcd T (Nat.gcd x.den y.den)) (x.den / Nat.gcd x.den y.den * (y.den / Nat.gcd T (Nat.gcd x.den y.den))) ∧
    Nat.Coprime (T / Nat.gcd T (Nat.gcd x.den y.den)) (x.den / Nat.gcd x.den y.den * (y.den / Nat.gcd T (Nat.gcd x.den y.den))) ∧ x.den / Nat.gcd x.den y.den * (y.den / Nat.gcd T (Nat.gcd x.den y.den)) ≠ 0 :=
  knuth rfl rfl rfl (by rw [h, sg_times, sg_times, sg_num, sg_num])
theorem sum_le {r s t : Bool} {T a b : Nat} (h : sg r T = sg s a + sg t b) : T ≤ a + b := by
  have h1 := sg_abs r T
  rw [h] at h1
  have h2 := Int.natAbs_add_le (sg s a) (sg t b)
  rw [sg_abs, sg_abs] at h2
  omega
theorem sum_nl {r s t : Bool} {T a b m : Nat} (h : sg r T = sg s a + sg t b) (ha : nl a ≤ m) (hb : nl b ≤ m) : nl T ≤ m + 1 := by
  have h1 := nl_mono (sum_le h)
  have h2 := nl_add_le a b
  omega
set_option maxHeartbeats 2000000 in
theorem add_one {w : World} (sx sy : Bool) (ax ay : Option Addr) (cx cy nx ny : Nat) (q : Rat) (hdx : DigsAt w ax (nl nx) cx nx) (hdy : DigsAt w ay (nl ny) cy ny) (hx : nl nx ≤ 38) (hy : nl ny ≤ 38)
    (hq : ∀ r T, sg r T = sg sx nx + sg sy ny → q = frac r T 1) :
    Calls Tryz.prog 62 #[.agg #[.bool sx, .slice ax (nl nx) cx, .slice none 0 0], .agg #[.bool sy, .slice ay (nl ny) cy, .slice none 0 0]] w (GivesF w q) := by
  have HS := Lib.hid (fun W (hW : Below w.heap.size w W) => sumSigned_any sx sy ax ay cx cy nx ny W (hdx.mono hW) (hdy.mono hW) (by omega) (by omega))
  have HQ := Lib.hid hq
  have hnil := fun w (a : Option Addr) n c => Lib.run_eql_slice_nil (P := Tryz.prog) w 95 167 a n c 0 0 Tryz.underlying95
  clear hdx hdy hq
  have HM0 := Lib.hid ((((Mem.start w).new' (n := w.heap.size) (by simp) 97 [.bool sx, .slice ax (nl nx) cx, .slice none 0 0]).new' (n := w.heap.size + 1) (by simp) 97 [.bool sy, .slice ay (nl ny) cy, .slice none 0 0]).new' (n := w.heap.size + 1 + 1) (by simp) 97 [.bool false, .slice none 0 0, .slice none 0 0])
  go_enter Tryz.func62, Tryz.ntmps62
  go_wp2_with fail
  generalize hW : ((w.alloc (.cells _ 97)).alloc (.cells _ 97)).alloc (.cells _ 97) = W at HM0 ⊢
  clear hW
  obtain ⟨j0, j1, j2⟩ := S3 (HM0.out.box (i := 1) rfl)
  obtain ⟨k0, k1, k2⟩ := S3 (HM0.out.box (i := 2) rfl)
  go_wp2_with fail
  refine (HS.out _ HM0.out.d).mono ?_
  rintro e w1 ⟨r, T, a1, c1, rfl, hs, hd1, hb1⟩
  have HM1 := Lib.hid (HM0.out.call hb1)
  have HD1 := Lib.hid hd1
  have HE := Lib.hid (HQ.out r T hs)
  obtain ⟨j0, j1, j2⟩ := S3 (HM1.out.box (i := 1) rfl)
  obtain ⟨k0, k1, k2⟩ := S3 (HM1.out.box (i := 2) rfl)
  clear hs hd1 hb1 HS HQ
  go_wp2_with fail
  refine (build_any r a1 c1 T 1 (.slice none 0 0) _ HD1.out (BotIn.one _) (.inr (Nat.gcd_one_right _))).mono ?_
  rintro e w2 ⟨v, rfl, hv, hb2⟩
  have HM2 := Lib.hid (HM1.out.call hb2)
  have HD1 := Lib.hid (HD1.out.mono hb2)
  rw [← HE.out] at hv
  have HV := Lib.hid hv
  obtain ⟨a9, c9, b9, m9, k9, rfl, _, _⟩ := hv
  obtain ⟨j0, j1, j2⟩ := S3 (HM2.out.box (i := 1) rfl)
  obtain ⟨k0, k1, k2⟩ := S3 (HM2.out.box (i := 2) rfl)
  obtain ⟨r0, r1, r2⟩ := S3 (HM2.out.box (i := 0) rfl)
  have r3 := (HM2.out.box (i := 0) rfl).free 0
  have r4 := (HM2.out.box (i := 0) rfl).free 1
  have r5 := (HM2.out.box (i := 0) rfl).free 2
  clear hb2
  have HR2 := Lib.hid (HM2.out.box (i := 0) rfl)
  have HB2 := Lib.hid HM2.out.d
  clear r0 r1 r2 r3 r4 r5 HM0 HM1 HM2
  go_wp2_with (first | (refine wpList_box_store rfl 97 _ _ rfl (w.heap.size + 1 + 1) rfl [_, _, _] rfl _ _ HR2.out rfl infoF (frac_one _ _ _ _ _ _ _) ?_; intro X hX))
  exact bodyPost_ret (v := _) (results_cell Tryz.results62 _ _ _ _ rfl (box_load _ hX.box Tryz.underlying97 rfl infoF)) rfl ⟨_, rfl, HV.out.filled (HR2.out) zF3_no hX, (HB2.out).trans (hX.below _ (by first | exact Nat.le_refl _ | omega))⟩
set_option maxHeartbeats 4000000 in
theorem add_more {w : World} {u v : Value} {x y : Rat} (hx : FracAt w u x) (hy : FracAt w v y) (hsx : Small x) (hsy : Small y) (hE : Env w) (hd : ¬ (x.den = 1 ∧ y.den = 1)) :
    Calls Tryz.prog 62 #[u, v] w (GivesF w (x + y)) := by
  have HK := Lib.hid (fun r T => add_knuth (x := x) (y := y) (r := r) (T := T))
  have HUx := Lib.hid (fun W (hW : Below w.heap.size w W) => under_any (hx.mono hW))
  have HUy := Lib.hid (fun W (hW : Below w.heap.size w W) => under_any (hy.mono hW))
  obtain ⟨ax, cx, bx, mx, kx, rfl, hdx, hBx⟩ := hx
  obtain ⟨ay, cy, bY, my, ky, rfl, hdy, hBy⟩ := hy
  have hnil : (bx = none ∧ ∃ b, bY = some b) ∨ ∃ b, bx = some b := by
    rcases hBx with ⟨h1, e⟩ | ⟨h1, a', c', e, _⟩
    · rcases hBy with ⟨h2, e2⟩ | ⟨h2, a', c', e2, _⟩
      · exact absurd ⟨h1, h2⟩ hd
      · cases e; cases e2; exact .inl ⟨rfl, _, rfl⟩
    · cases e; exact .inr ⟨_, rfl⟩
  have hnx := den_ne x
  have hny := den_ne y
  have hg0 : Nat.gcd x.den y.den ≠ 0 := fun e => hnx (Nat.eq_zero_of_gcd_eq_zero_left e)
  obtain ⟨hx1, hx2⟩ := hsx
  obtain ⟨hy1, hy2⟩ := hsy
  have q1 := nl_div x.den (Nat.gcd x.den y.den)
  have q2 := nl_div y.den (Nat.gcd x.den y.den)
  have q3 : nl (Nat.gcd x.den y.den) ≤ nl x.den := nl_mono (Nat.gcd_le_left _ (by omega))
  have HX := Lib.hid hdx
  have HY := Lib.hid hdy
  have HE := Lib.hid (fun W (hW : Below w.heap.size w W) => hE.mono hW)
  clear hd hBx hBy hdx hdy hnx hny hE
  have HG := Lib.hid (Eq.refl (Nat.gcd x.den y.den))
  have HU := Lib.hid (Eq.refl (y.den / Nat.gcd x.den y.den))
  have HV' := Lib.hid (Eq.refl (x.den / Nat.gcd x.den y.den))
  generalize neg x = sx at *
  generalize neg y = sy at *
  generalize hgu : y.den / Nat.gcd x.den y.den = U at HK q2 HU
  generalize hgv : x.den / Nat.gcd x.den y.den = V at HK q1 HV'
  generalize hgg : Nat.gcd x.den y.den = g at *
  generalize top x = nx at *
  generalize top y = ny at *
  generalize x.den = dx at *
  generalize y.den = dy at *
  have HGU := Lib.hid hgu
  have HGV := Lib.hid hgv
  have HGG := Lib.hid hgg
  clear hgu hgv hgg HG HU HV'
  have hrun := fun w (a : Option Addr) n c => Lib.run_eql_slice_nil (P := Tryz.prog) w 95 167 a n c 0 0 Tryz.underlying95
  rcases hnil with ⟨rfl, b', rfl⟩ | ⟨b', rfl⟩
  · have HM0 := Lib.hid ((((Mem.start w).new' (n := w.heap.size) (by simp) 97 [.bool sx, .slice ax (nl nx) cx, .slice none mx kx]).new' (n := w.heap.size + 1) (by simp) 97 [.bool sy, .slice ay (nl ny) cy, .slice (some b') my ky]).new' (n := w.heap.size + 1 + 1) (by simp) 97 [.bool false, .slice none 0 0, .slice none 0 0])
    go_enter Tryz.func62, Tryz.ntmps62
    go_wp2_with fail
    generalize hW : ((w.alloc (.cells _ 97)).alloc (.cells _ 97)).alloc (.cells _ 97) = W at HM0 ⊢
    clear hW hrun
    have ne1 : ¬ w.heap.size = w.heap.size + 1 + 1 := by omega
    have ne2 : ¬ w.heap.size + 1 + 1 = w.heap.size := by omega
    have HCc := Lib.hid (fun W a b c d (h1 : DigsAt W a (nl (dx)) c (dx)) (h2 : DigsAt W b (nl (dy)) d (dy)) (hW : Below w.heap.size w W) => common_any a b c d (dx) (dy) W h1 h2 (by omega) (by omega) (HE.out W hW))
    have HOy := Lib.hid (fun W a b c d (h1 : DigsAt W a (nl (dy)) c (dy)) (h2 : DigsAt W b (nl (g)) d (g)) (hW : Below w.heap.size w W) => over_any a b c d (dy) (g) W h1 h2 (by omega) (by omega) hg0 (HE.out W hW))
    have HOx := Lib.hid (fun W a b c d (h1 : DigsAt W a (nl (dx)) c (dx)) (h2 : DigsAt W b (nl (g)) d (g)) (hW : Below w.heap.size w W) => over_any a b c d (dx) (g) W h1 h2 (by omega) (by omega) hg0 (HE.out W hW))
    have HMx := Lib.hid (fun W a b c d (h1 : DigsAt W a (nl (nx)) c (nx)) (h2 : DigsAt W b (nl (U)) d (U)) => mul_any a b c d (nx) (U) W h1 h2 (by omega) (by omega) (by omega))
    have HMy := Lib.hid (fun W a b c d (h1 : DigsAt W a (nl (ny)) c (ny)) (h2 : DigsAt W b (nl (V)) d (V)) => mul_any a b c d (ny) (V) W h1 h2 (by omega) (by omega) (by omega))
    have HSs := Lib.hid (fun W a b c d (h1 : DigsAt W a (nl (nx * U)) c (nx * U)) (h2 : DigsAt W b (nl (ny * V)) d (ny * V)) => sumSigned_any sx sy a b c d (nx * U) (ny * V) W h1 h2 (Nat.le_trans (nl_mul_le nx U) (by omega)) (Nat.le_trans (nl_mul_le ny V) (by omega)))
    obtain ⟨j0, j1, j2⟩ := S3 (HM0.out.box (i := 1) rfl)
    obtain ⟨k0, k1, k2⟩ := S3 (HM0.out.box (i := 2) rfl)
    go_region_held3 (fun w' => w'.cell? ⟨w.heap.size + 1, 0, none⟩ = some (.bool sy) ∧ w'.cell? ⟨w.heap.size + 1, 1, none⟩ = some (.slice ay (nl ny) cy) ∧ w'.cell? ⟨w.heap.size + 1, 2, none⟩ = some (.slice (some b') my ky) ∧ w'.cell? ⟨w.heap.size, 0, none⟩ = some (.bool sx) ∧ w'.cell? ⟨w.heap.size, 1, none⟩ = some (.slice ax (nl nx) cx) ∧ w'.cell? ⟨w.heap.size, 2, none⟩ = some (.slice none mx kx)) (first | exact ⟨j0, j1, j2, k0, k1, k2⟩ | go_keep)
      (first
        | (go_at_call 125; (with_reducible refine (HUx.out _ HM0.out.drew.d).mono ?_); rintro e w1 ⟨a1, c1, rfl, hd1, hb1⟩; have HM1 := Lib.hid (HM0.out.drew.call hb1); have HD1 := Lib.hid hd1; obtain ⟨j0, j1, j2⟩ := S3 (HM1.out.box (i := 1) rfl); obtain ⟨k0, k1, k2⟩ := S3 (HM1.out.box (i := 2) rfl))
        | (go_at_call 125; (with_reducible refine (HUy.out _ HM1.out.d).mono ?_); rintro e w2 ⟨a2, c2, rfl, hd2, hb2⟩; have HM2 := Lib.hid (HM1.out.call hb2); have HD1b := Lib.hid (HD1.out.mono hb2); have HD2 := Lib.hid hd2; obtain ⟨j0, j1, j2⟩ := S3 (HM2.out.box (i := 1) rfl); obtain ⟨k0, k1, k2⟩ := S3 (HM2.out.box (i := 2) rfl))
        | (go_at_call 129; (with_reducible refine (HCc.out _ _ _ _ _ HD1b.out HD2.out HM2.out.d).mono ?_); rintro e w3 ⟨a3, c3, rfl, hd3, hb3⟩; have HM3 := Lib.hid (HM2.out.call hb3); rw [HGG.out] at hd3; have HD3 := Lib.hid hd3; obtain ⟨j0, j1, j2⟩ := S3 (HM3.out.box (i := 1) rfl); obtain ⟨k0, k1, k2⟩ := S3 (HM3.out.box (i := 2) rfl)))
    rw [HGG.out]
    clear hd1 hb1 HD1 hd2 hb2 HD1b HD2 hd3 hb3 HM0 HM1 HM2
    go_wp2_with fail
    go_region_held3 (fun w' => w'.cell? ⟨w.heap.size + 1, 0, none⟩ = some (.bool sy) ∧ w'.cell? ⟨w.heap.size + 1, 1, none⟩ = some (.slice ay (nl ny) cy) ∧ w'.cell? ⟨w.heap.size + 1, 2, none⟩ = some (.slice (some b') my ky) ∧ w'.cell? ⟨w.heap.size, 0, none⟩ = some (.bool sx) ∧ w'.cell? ⟨w.heap.size, 1, none⟩ = some (.slice ax (nl nx) cx) ∧ w'.cell? ⟨w.heap.size, 2, none⟩ = some (.slice none mx kx)) (first | exact ⟨j0, j1, j2, k0, k1, k2⟩ | go_keep)
      (first
        | (go_at_call 125; (with_reducible refine (HUy.out _ HM3.out.drew.d).mono ?_); rintro e w4 ⟨a1, c1, rfl, hd1, hb1⟩; have HM4 := Lib.hid (HM3.out.drew.call hb1); have HD3 := Lib.hid (HD3.out.drew.mono hb1); have HD1 := Lib.hid hd1; obtain ⟨j0, j1, j2⟩ := S3 (HM4.out.box (i := 1) rfl); obtain ⟨k0, k1, k2⟩ := S3 (HM4.out.box (i := 2) rfl))
        | (go_at_call 130; (with_reducible refine (HOy.out _ _ _ _ _ HD1.out HD3.out HM4.out.d).mono ?_); rintro e w5 ⟨a4, c4, rfl, hd4, hb4⟩; have HM5 := Lib.hid (HM4.out.call hb4); have HD3 := Lib.hid (HD3.out.mono hb4); rw [HGU.out] at hd4; have HD4 := Lib.hid hd4; obtain ⟨j0, j1, j2⟩ := S3 (HM5.out.box (i := 1) rfl); obtain ⟨k0, k1, k2⟩ := S3 (HM5.out.box (i := 2) rfl))
        | (go_at_call 125; (with_reducible refine (HUx.out _ HM5.out.d).mono ?_); rintro e w6 ⟨a5, c5, rfl, hd5, hb5⟩; have HM6 := Lib.hid (HM5.out.call hb5); have HD3 := Lib.hid (HD3.out.mono hb5); have HD4 := Lib.hid (HD4.out.mono hb5); have HD5 := Lib.hid hd5; obtain ⟨j0, j1, j2⟩ := S3 (HM6.out.box (i := 1) rfl); obtain ⟨k0, k1, k2⟩ := S3 (HM6.out.box (i := 2) rfl))
        | (go_at_call 130; (with_reducible refine (HOx.out _ _ _ _ _ HD5.out HD3.out HM6.out.d).mono ?_); rintro e w7 ⟨a6, c6, rfl, hd6, hb6⟩; have HM7 := Lib.hid (HM6.out.call hb6); have HD3 := Lib.hid (HD3.out.mono hb6); have HD4 := Lib.hid (HD4.out.mono hb6); rw [HGV.out] at hd6; have HD6 := Lib.hid hd6; obtain ⟨j0, j1, j2⟩ := S3 (HM7.out.box (i := 1) rfl); obtain ⟨k0, k1, k2⟩ := S3 (HM7.out.box (i := 2) rfl)))
    rw [HGU.out, HGV.out]
    clear hd1 hb1 HD1 hd4 hb4 hd5 hb5 HD5 hd6 hb6 HM3 HM4 HM5 HM6
    go_wp2_with fail
    go_region_held3 (fun w' => w'.cell? ⟨w.heap.size + 1, 0, none⟩ = some (.bool sy) ∧ w'.cell? ⟨w.heap.size + 1, 1, none⟩ = some (.slice ay (nl ny) cy) ∧ w'.cell? ⟨w.heap.size + 1, 2, none⟩ = some (.slice (some b') my ky) ∧ w'.cell? ⟨w.heap.size, 0, none⟩ = some (.bool sx) ∧ w'.cell? ⟨w.heap.size, 1, none⟩ = some (.slice ax (nl nx) cx) ∧ w'.cell? ⟨w.heap.size, 2, none⟩ = some (.slice none mx kx)) (first | exact ⟨j0, j1, j2, k0, k1, k2⟩ | go_keep)
      (first
        | (go_at_call 127; (with_reducible refine (HMx.out _ _ _ _ _ (HX.out.mono HM7.out.drew.d) HD4.out.drew).mono ?_); rintro e w8 ⟨a7, c7, rfl, hd7, hb7⟩; have HM8 := Lib.hid (HM7.out.drew.call hb7); have HD3 := Lib.hid (HD3.out.drew.mono hb7); have HD4 := Lib.hid (HD4.out.drew.mono hb7); have HD6 := Lib.hid (HD6.out.drew.mono hb7); have HD7 := Lib.hid hd7; obtain ⟨j0, j1, j2⟩ := S3 (HM8.out.box (i := 1) rfl); obtain ⟨k0, k1, k2⟩ := S3 (HM8.out.box (i := 2) rfl))
        | (go_at_call 127; (with_reducible refine (HMy.out _ _ _ _ _ (HY.out.mono HM8.out.d) HD6.out).mono ?_); rintro e w9 ⟨a8, c8, rfl, hd8, hb8⟩; have HM9 := Lib.hid (HM8.out.call hb8); have HD3 := Lib.hid (HD3.out.mono hb8); have HD4 := Lib.hid (HD4.out.mono hb8); have HD6 := Lib.hid (HD6.out.mono hb8); have HD7b := Lib.hid (HD7.out.mono hb8); have HD8 := Lib.hid hd8; obtain ⟨j0, j1, j2⟩ := S3 (HM9.out.box (i := 1) rfl); obtain ⟨k0, k1, k2⟩ := S3 (HM9.out.box (i := 2) rfl))
        | (go_at_call 128; (with_reducible refine (HSs.out _ _ _ _ _ HD7b.out HD8.out).mono ?_); rintro e w10 ⟨r, T, a9, c9, rfl, hs, hd9, hb9⟩; have HM10 := Lib.hid (HM9.out.call hb9); have HD3 := Lib.hid (HD3.out.mono hb9); have HD4 := Lib.hid (HD4.out.mono hb9); have HD6 := Lib.hid (HD6.out.mono hb9); have HD9 := Lib.hid hd9; have HS := Lib.hid hs; obtain ⟨j0, j1, j2⟩ := S3 (HM10.out.box (i := 1) rfl); obtain ⟨k0, k1, k2⟩ := S3 (HM10.out.box (i := 2) rfl)))
    have hT : nl T ≤ 77 := sum_nl HS.out (Nat.le_trans (nl_mul_le nx U) (by omega)) (Nat.le_trans (nl_mul_le ny V) (by omega))
    obtain ⟨e1, e2, e3⟩ := HK.out r T HS.out
    have E1 := Lib.hid e1
    have E2 := Lib.hid e2
    have E3 := Lib.hid e3
    clear hd7 hb7 HD7 hd8 hb8 HD7b HD8 hs hd9 hb9 HM7 HM8 HM9 HS HK e1 e2 e3
    go_wp2_with fail
    refine (common_any a9 a3 c9 c3 T g _ HD9.out HD3.out (by omega) (by omega) (HE.out _ HM10.out.d)).mono ?_
    rintro e w11 ⟨a10, c10, rfl, hd10, hb10⟩
    have HM11 := Lib.hid (HM10.out.call hb10)
    have HD3 := Lib.hid (HD3.out.mono hb10)
    have HD4 := Lib.hid (HD4.out.mono hb10)
    have HD6 := Lib.hid (HD6.out.mono hb10)
    have HD9 := Lib.hid (HD9.out.mono hb10)
    have HD10 := Lib.hid hd10
    obtain ⟨j0, j1, j2⟩ := S3 (HM11.out.box (i := 1) rfl)
    obtain ⟨k0, k1, k2⟩ := S3 (HM11.out.box (i := 2) rfl)
    have hl0 : Nat.gcd T g ≠ 0 := fun e => hg0 (Nat.eq_zero_of_gcd_eq_zero_right e)
    have q4 : nl (Nat.gcd T g) ≤ nl g := nl_mono (Nat.gcd_le_right _ (by omega))
    have q5 := nl_div dy (Nat.gcd T g)
    clear hd10 hb10 HM10
    generalize Nat.gcd T g = l at *
    have HOt := Lib.hid (fun W a b c d (h1 : DigsAt W a (nl (T)) c (T)) (h2 : DigsAt W b (nl (l)) d (l)) (hW : Below w.heap.size w W) => over_any a b c d (T) (l) W h1 h2 (by omega) (by omega) hl0 (HE.out W hW))
    have HOl := Lib.hid (fun W a b c d (h1 : DigsAt W a (nl (dy)) c (dy)) (h2 : DigsAt W b (nl (l)) d (l)) (hW : Below w.heap.size w W) => over_any a b c d (dy) (l) W h1 h2 (by omega) (by omega) hl0 (HE.out W hW))
    have HMl := Lib.hid (fun W a b c d (h1 : DigsAt W a (nl (V)) c (V)) (h2 : DigsAt W b (nl (dy / l)) d (dy / l)) => mul_any a b c d (V) (dy / l) W h1 h2 (by omega) (by omega) (by omega))
    go_wp2_with fail
    go_region_held3 (fun w' => w'.cell? ⟨w.heap.size + 1, 0, none⟩ = some (.bool sy) ∧ w'.cell? ⟨w.heap.size + 1, 1, none⟩ = some (.slice ay (nl ny) cy) ∧ w'.cell? ⟨w.heap.size + 1, 2, none⟩ = some (.slice (some b') my ky) ∧ w'.cell? ⟨w.heap.size, 0, none⟩ = some (.bool sx) ∧ w'.cell? ⟨w.heap.size, 1, none⟩ = some (.slice ax (nl nx) cx) ∧ w'.cell? ⟨w.heap.size, 2, none⟩ = some (.slice none mx kx)) (first | exact ⟨j0, j1, j2, k0, k1, k2⟩ | go_keep)
      (first
        | (go_at_call 130; (with_reducible refine (HOt.out _ _ _ _ _ HD9.out.drew HD10.out.drew HM11.out.drew.d).mono ?_); rintro e w12 ⟨a11, c11, rfl, hd11, hb11⟩; have HM12 := Lib.hid (HM11.out.drew.call hb11); have HD3 := Lib.hid (HD3.out.drew.mono hb11); have HD4 := Lib.hid (HD4.out.drew.mono hb11); have HD6 := Lib.hid (HD6.out.drew.mono hb11); have HD9 := Lib.hid (HD9.out.drew.mono hb11); have HD10 := Lib.hid (HD10.out.drew.mono hb11); have HD11 := Lib.hid hd11; obtain ⟨j0, j1, j2⟩ := S3 (HM12.out.box (i := 1) rfl); obtain ⟨k0, k1, k2⟩ := S3 (HM12.out.box (i := 2) rfl))
        | (go_at_call 125; (with_reducible refine (HUy.out _ HM12.out.d).mono ?_); rintro e w13 ⟨a12, c12, rfl, hd12, hb12⟩; have HM13 := Lib.hid (HM12.out.call hb12); have HD3 := Lib.hid (HD3.out.mono hb12); have HD4 := Lib.hid (HD4.out.mono hb12); have HD6 := Lib.hid (HD6.out.mono hb12); have HD9 := Lib.hid (HD9.out.mono hb12); have HD10 := Lib.hid (HD10.out.mono hb12); have HD11 := Lib.hid (HD11.out.mono hb12); have HD12 := Lib.hid hd12; obtain ⟨j0, j1, j2⟩ := S3 (HM13.out.box (i := 1) rfl); obtain ⟨k0, k1, k2⟩ := S3 (HM13.out.box (i := 2) rfl))
        | (go_at_call 130; (with_reducible refine (HOl.out _ _ _ _ _ HD12.out HD10.out HM13.out.d).mono ?_); rintro e w14 ⟨a13, c13, rfl, hd13, hb13⟩; have HM14 := Lib.hid (HM13.out.call hb13); have HD3 := Lib.hid (HD3.out.mono hb13); have HD4 := Lib.hid (HD4.out.mono hb13); have HD6 := Lib.hid (HD6.out.mono hb13); have HD9 := Lib.hid (HD9.out.mono hb13); have HD10 := Lib.hid (HD10.out.mono hb13); have HD11 := Lib.hid (HD11.out.mono hb13); have HD13 := Lib.hid hd13; obtain ⟨j0, j1, j2⟩ := S3 (HM14.out.box (i := 1) rfl); obtain ⟨k0, k1, k2⟩ := S3 (HM14.out.box (i := 2) rfl))
        | (go_at_call 127; (with_reducible refine (HMl.out _ _ _ _ _ HD6.out HD13.out).mono ?_); rintro e w15 ⟨a14, c14, rfl, hd14, hb14⟩; have HM15 := Lib.hid (HM14.out.call hb14); have HD3 := Lib.hid (HD3.out.mono hb14); have HD4 := Lib.hid (HD4.out.mono hb14); have HD6 := Lib.hid (HD6.out.mono hb14); have HD9 := Lib.hid (HD9.out.mono hb14); have HD10 := Lib.hid (HD10.out.mono hb14); have HD11 := Lib.hid (HD11.out.mono hb14); have HD14 := Lib.hid hd14; obtain ⟨j0, j1, j2⟩ := S3 (HM15.out.box (i := 1) rfl); obtain ⟨k0, k1, k2⟩ := S3 (HM15.out.box (i := 2) rfl))
        | (go_at_call 126; (with_reducible refine (build_any r a11 c11 (T / l) (V * (dy / l)) _ _ HD11.out (BotIn.more E3.out HD14.out) (.inr E2.out)).mono ?_); rintro e w16 ⟨v, rfl, hv, hb15⟩; have HM16 := Lib.hid (HM15.out.call hb15); have HD3 := Lib.hid (HD3.out.mono hb15); have HD4 := Lib.hid (HD4.out.mono hb15); have HD6 := Lib.hid (HD6.out.mono hb15); have HD9 := Lib.hid (HD9.out.mono hb15); have HD10 := Lib.hid (HD10.out.mono hb15); have HD11 := Lib.hid (HD11.out.mono hb15); rw [← E1.out] at hv; have HV := Lib.hid hv; obtain ⟨a19, c19, b19, m19, k19, rfl, _, _⟩ := hv; obtain ⟨j0, j1, j2⟩ := S3 (HM16.out.box (i := 1) rfl); obtain ⟨k0, k1, k2⟩ := S3 (HM16.out.box (i := 2) rfl); obtain ⟨r0, r1, r2⟩ := S3 (HM16.out.box (i := 0) rfl); have r3 := (HM16.out.box (i := 0) rfl).free 0; have r4 := (HM16.out.box (i := 0) rfl).free 1; have r5 := (HM16.out.box (i := 0) rfl).free 2))
    clear hd11 hb11 hd12 hb12 HD12 hd13 hb13 HD13 hd14 hb14 HD14 hb15
    generalize hXe : World.setCell (World.setCell (World.setCell w16 _ _) _ _) _ _ = X
    have hX := fill3 (HM16.out.box (i := 0) rfl) hXe
    clear hXe
    go_wp2_with fail
    exact bodyPost_ret (v := _) (results_cell Tryz.results62 _ _ _ _ rfl (box_load _ hX.box Tryz.underlying97 rfl infoF)) rfl ⟨_, rfl, HV.out.filled (HM16.out.box (i := 0) rfl) zF3_no hX, (HM16.out.d).trans (hX.below _ (by first | exact Nat.le_refl _ | omega))⟩
  · have HM0 := Lib.hid ((((Mem.start w).new' (n := w.heap.size) (by simp) 97 [.bool sx, .slice ax (nl nx) cx, .slice (some b') mx kx]).new' (n := w.heap.size + 1) (by simp) 97 [.bool sy, .slice ay (nl ny) cy, .slice bY my ky]).new' (n := w.heap.size + 1 + 1) (by simp) 97 [.bool false, .slice none 0 0, .slice none 0 0])
    go_enter Tryz.func62, Tryz.ntmps62
    go_wp2_with fail
    generalize hW : ((w.alloc (.cells _ 97)).alloc (.cells _ 97)).alloc (.cells _ 97) = W at HM0 ⊢
    clear hW hrun
    have ne1 : ¬ w.heap.size = w.heap.size + 1 + 1 := by omega
    have ne2 : ¬ w.heap.size + 1 + 1 = w.heap.size := by omega
    have HCc := Lib.hid (fun W a b c d (h1 : DigsAt W a (nl (dx)) c (dx)) (h2 : DigsAt W b (nl (dy)) d (dy)) (hW : Below w.heap.size w W) => common_any a b c d (dx) (dy) W h1 h2 (by omega) (by omega) (HE.out W hW))
    have HOy := Lib.hid (fun W a b c d (h1 : DigsAt W a (nl (dy)) c (dy)) (h2 : DigsAt W b (nl (g)) d (g)) (hW : Below w.heap.size w W) => over_any a b c d (dy) (g) W h1 h2 (by omega) (by omega) hg0 (HE.out W hW))
    have HOx := Lib.hid (fun W a b c d (h1 : DigsAt W a (nl (dx)) c (dx)) (h2 : DigsAt W b (nl (g)) d (g)) (hW : Below w.heap.size w W) => over_any a b c d (dx) (g) W h1 h2 (by omega) (by omega) hg0 (HE.out W hW))
    have HMx := Lib.hid (fun W a b c d (h1 : DigsAt W a (nl (nx)) c (nx)) (h2 : DigsAt W b (nl (U)) d (U)) => mul_any a b c d (nx) (U) W h1 h2 (by omega) (by omega) (by omega))
    have HMy := Lib.hid (fun W a b c d (h1 : DigsAt W a (nl (ny)) c (ny)) (h2 : DigsAt W b (nl (V)) d (V)) => mul_any a b c d (ny) (V) W h1 h2 (by omega) (by omega) (by omega))
    have HSs := Lib.hid (fun W a b c d (h1 : DigsAt W a (nl (nx * U)) c (nx * U)) (h2 : DigsAt W b (nl (ny * V)) d (ny * V)) => sumSigned_any sx sy a b c d (nx * U) (ny * V) W h1 h2 (Nat.le_trans (nl_mul_le nx U) (by omega)) (Nat.le_trans (nl_mul_le ny V) (by omega)))
    obtain ⟨j0, j1, j2⟩ := S3 (HM0.out.box (i := 1) rfl)
    obtain ⟨k0, k1, k2⟩ := S3 (HM0.out.box (i := 2) rfl)
    go_region_held3 (fun w' => w'.cell? ⟨w.heap.size + 1, 0, none⟩ = some (.bool sy) ∧ w'.cell? ⟨w.heap.size + 1, 1, none⟩ = some (.slice ay (nl ny) cy) ∧ w'.cell? ⟨w.heap.size + 1, 2, none⟩ = some (.slice bY my ky) ∧ w'.cell? ⟨w.heap.size, 0, none⟩ = some (.bool sx) ∧ w'.cell? ⟨w.heap.size, 1, none⟩ = some (.slice ax (nl nx) cx) ∧ w'.cell? ⟨w.heap.size, 2, none⟩ = some (.slice (some b') mx kx)) (first | exact ⟨j0, j1, j2, k0, k1, k2⟩ | go_keep)
      (first
        | (go_at_call 125; (with_reducible refine (HUx.out _ HM0.out.drew.d).mono ?_); rintro e w1 ⟨a1, c1, rfl, hd1, hb1⟩; have HM1 := Lib.hid (HM0.out.drew.call hb1); have HD1 := Lib.hid hd1; obtain ⟨j0, j1, j2⟩ := S3 (HM1.out.box (i := 1) rfl); obtain ⟨k0, k1, k2⟩ := S3 (HM1.out.box (i := 2) rfl))
        | (go_at_call 125; (with_reducible refine (HUy.out _ HM1.out.d).mono ?_); rintro e w2 ⟨a2, c2, rfl, hd2, hb2⟩; have HM2 := Lib.hid (HM1.out.call hb2); have HD1b := Lib.hid (HD1.out.mono hb2); have HD2 := Lib.hid hd2; obtain ⟨j0, j1, j2⟩ := S3 (HM2.out.box (i := 1) rfl); obtain ⟨k0, k1, k2⟩ := S3 (HM2.out.box (i := 2) rfl))
        | (go_at_call 129; (with_reducible refine (HCc.out _ _ _ _ _ HD1b.out HD2.out HM2.out.d).mono ?_); rintro e w3 ⟨a3, c3, rfl, hd3, hb3⟩; have HM3 := Lib.hid (HM2.out.call hb3); rw [HGG.out] at hd3; have HD3 := Lib.hid hd3; obtain ⟨j0, j1, j2⟩ := S3 (HM3.out.box (i := 1) rfl); obtain ⟨k0, k1, k2⟩ := S3 (HM3.out.box (i := 2) rfl)))
    rw [HGG.out]
    clear hd1 hb1 HD1 hd2 hb2 HD1b HD2 hd3 hb3 HM0 HM1 HM2
    go_wp2_with fail
    go_region_held3 (fun w' => w'.cell? ⟨w.heap.size + 1, 0, none⟩ = some (.bool sy) ∧ w'.cell? ⟨w.heap.size + 1, 1, none⟩ = some (.slice ay (nl ny) cy) ∧ w'.cell? ⟨w.heap.size + 1, 2, none⟩ = some (.slice bY my ky) ∧ w'.cell? ⟨w.heap.size, 0, none⟩ = some (.bool sx) ∧ w'.cell? ⟨w.heap.size, 1, none⟩ = some (.slice ax (nl nx) cx) ∧ w'.cell? ⟨w.heap.size, 2, none⟩ = some (.slice (some b') mx kx)) (first | exact ⟨j0, j1, j2, k0, k1, k2⟩ | go_keep)
      (first
        | (go_at_call 125; (with_reducible refine (HUy.out _ HM3.out.drew.d).mono ?_); rintro e w4 ⟨a1, c1, rfl, hd1, hb1⟩; have HM4 := Lib.hid (HM3.out.drew.call hb1); have HD3 := Lib.hid (HD3.out.drew.mono hb1); have HD1 := Lib.hid hd1; obtain ⟨j0, j1, j2⟩ := S3 (HM4.out.box (i := 1) rfl); obtain ⟨k0, k1, k2⟩ := S3 (HM4.out.box (i := 2) rfl))
        | (go_at_call 130; (with_reducible refine (HOy.out _ _ _ _ _ HD1.out HD3.out HM4.out.d).mono ?_); rintro e w5 ⟨a4, c4, rfl, hd4, hb4⟩; have HM5 := Lib.hid (HM4.out.call hb4); have HD3 := Lib.hid (HD3.out.mono hb4); rw [HGU.out] at hd4; have HD4 := Lib.hid hd4; obtain ⟨j0, j1, j2⟩ := S3 (HM5.out.box (i := 1) rfl); obtain ⟨k0, k1, k2⟩ := S3 (HM5.out.box (i := 2) rfl))
        | (go_at_call 125; (with_reducible refine (HUx.out _ HM5.out.d).mono ?_); rintro e w6 ⟨a5, c5, rfl, hd5, hb5⟩; have HM6 := Lib.hid (HM5.out.call hb5); have HD3 := Lib.hid (HD3.out.mono hb5); have HD4 := Lib.hid (HD4.out.mono hb5); have HD5 := Lib.hid hd5; obtain ⟨j0, j1, j2⟩ := S3 (HM6.out.box (i := 1) rfl); obtain ⟨k0, k1, k2⟩ := S3 (HM6.out.box (i := 2) rfl))
        | (go_at_call 130; (with_reducible refine (HOx.out _ _ _ _ _ HD5.out HD3.out HM6.out.d).mono ?_); rintro e w7 ⟨a6, c6, rfl, hd6, hb6⟩; have HM7 := Lib.hid (HM6.out.call hb6); have HD3 := Lib.hid (HD3.out.mono hb6); have HD4 := Lib.hid (HD4.out.mono hb6); rw [HGV.out] at hd6; have HD6 := Lib.hid hd6; obtain ⟨j0, j1, j2⟩ := S3 (HM7.out.box (i := 1) rfl); obtain ⟨k0, k1, k2⟩ := S3 (HM7.out.box (i := 2) rfl)))
    rw [HGU.out, HGV.out]
    clear hd1 hb1 HD1 hd4 hb4 hd5 hb5 HD5 hd6 hb6 HM3 HM4 HM5 HM6
    go_wp2_with fail
    go_region_held3 (fun w' => w'.cell? ⟨w.heap.size + 1, 0, none⟩ = some (.bool sy) ∧ w'.cell? ⟨w.heap.size + 1, 1, none⟩ = some (.slice ay (nl ny) cy) ∧ w'.cell? ⟨w.heap.size + 1, 2, none⟩ = some (.slice bY my ky) ∧ w'.cell? ⟨w.heap.size, 0, none⟩ = some (.bool sx) ∧ w'.cell? ⟨w.heap.size, 1, none⟩ = some (.slice ax (nl nx) cx) ∧ w'.cell? ⟨w.heap.size, 2, none⟩ = some (.slice (some b') mx kx)) (first | exact ⟨j0, j1, j2, k0, k1, k2⟩ | go_keep)
      (first
        | (go_at_call 127; (with_reducible refine (HMx.out _ _ _ _ _ (HX.out.mono HM7.out.drew.d) HD4.out.drew).mono ?_); rintro e w8 ⟨a7, c7, rfl, hd7, hb7⟩; have HM8 := Lib.hid (HM7.out.drew.call hb7); have HD3 := Lib.hid (HD3.out.drew.mono hb7); have HD4 := Lib.hid (HD4.out.drew.mono hb7); have HD6 := Lib.hid (HD6.out.drew.mono hb7); have HD7 := Lib.hid hd7; obtain ⟨j0, j1, j2⟩ := S3 (HM8.out.box (i := 1) rfl); obtain ⟨k0, k1, k2⟩ := S3 (HM8.out.box (i := 2) rfl))
        | (go_at_call 127; (with_reducible refine (HMy.out _ _ _ _ _ (HY.out.mono HM8.out.d) HD6.out).mono ?_); rintro e w9 ⟨a8, c8, rfl, hd8, hb8⟩; have HM9 := Lib.hid (HM8.out.call hb8); have HD3 := Lib.hid (HD3.out.mono hb8); have HD4 := Lib.hid (HD4.out.mono hb8); have HD6 := Lib.hid (HD6.out.mono hb8); have HD7b := Lib.hid (HD7.out.mono hb8); have HD8 := Lib.hid hd8; obtain ⟨j0, j1, j2⟩ := S3 (HM9.out.box (i := 1) rfl); obtain ⟨k0, k1, k2⟩ := S3 (HM9.out.box (i := 2) rfl))
        | (go_at_call 128; (with_reducible refine (HSs.out _ _ _ _ _ HD7b.out HD8.out).mono ?_); rintro e w10 ⟨r, T, a9, c9, rfl, hs, hd9, hb9⟩; have HM10 := Lib.hid (HM9.out.call hb9); have HD3 := Lib.hid (HD3.out.mono hb9); have HD4 := Lib.hid (HD4.out.mono hb9); have HD6 := Lib.hid (HD6.out.mono hb9); have HD9 := Lib.hid hd9; have HS := Lib.hid hs; obtain ⟨j0, j1, j2⟩ := S3 (HM10.out.box (i := 1) rfl); obtain ⟨k0, k1, k2⟩ := S3 (HM10.out.box (i := 2) rfl)))
    have hT : nl T ≤ 77 := sum_nl HS.out (Nat.le_trans (nl_mul_le nx U) (by omega)) (Nat.le_trans (nl_mul_le ny V) (by omega))
    obtain ⟨e1, e2, e3⟩ := HK.out r T HS.out
    have E1 := Lib.hid e1
    have E2 := Lib.hid e2
    have E3 := Lib.hid e3
    clear hd7 hb7 HD7 hd8 hb8 HD7b HD8 hs hd9 hb9 HM7 HM8 HM9 HS HK e1 e2 e3
    go_wp2_with fail
    refine (common_any a9 a3 c9 c3 T g _ HD9.out HD3.out (by omega) (by omega) (HE.out _ HM10.out.d)).mono ?_
    rintro e w11 ⟨a10, c10, rfl, hd10, hb10⟩
    have HM11 := Lib.hid (HM10.out.call hb10)
    have HD3 := Lib.hid (HD3.out.mono hb10)
    have HD4 := Lib.hid (HD4.out.mono hb10)
    have HD6 := Lib.hid (HD6.out.mono hb10)
    have HD9 := Lib.hid (HD9.out.mono hb10)
    have HD10 := Lib.hid hd10
    obtain ⟨j0, j1, j2⟩ := S3 (HM11.out.box (i := 1) rfl)
    obtain ⟨k0, k1, k2⟩ := S3 (HM11.out.box (i := 2) rfl)
    have hl0 : Nat.gcd T g ≠ 0 := fun e => hg0 (Nat.eq_zero_of_gcd_eq_zero_right e)
    have q4 : nl (Nat.gcd T g) ≤ nl g := nl_mono (Nat.gcd_le_right _ (by omega))
    have q5 := nl_div dy (Nat.gcd T g)
    clear hd10 hb10 HM10
    generalize Nat.gcd T g = l at *
    have HOt := Lib.hid (fun W a b c d (h1 : DigsAt W a (nl (T)) c (T)) (h2 : DigsAt W b (nl (l)) d (l)) (hW : Below w.heap.size w W) => over_any a b c d (T) (l) W h1 h2 (by omega) (by omega) hl0 (HE.out W hW))
    have HOl := Lib.hid (fun W a b c d (h1 : DigsAt W a (nl (dy)) c (dy)) (h2 : DigsAt W b (nl (l)) d (l)) (hW : Below w.heap.size w W) => over_any a b c d (dy) (l) W h1 h2 (by omega) (by omega) hl0 (HE.out W hW))
    have HMl := Lib.hid (fun W a b c d (h1 : DigsAt W a (nl (V)) c (V)) (h2 : DigsAt W b (nl (dy / l)) d (dy / l)) => mul_any a b c d (V) (dy / l) W h1 h2 (by omega) (by omega) (by omega))
    go_wp2_with fail
    go_region_held3 (fun w' => w'.cell? ⟨w.heap.size + 1, 0, none⟩ = some (.bool sy) ∧ w'.cell? ⟨w.heap.size + 1, 1, none⟩ = some (.slice ay (nl ny) cy) ∧ w'.cell? ⟨w.heap.size + 1, 2, none⟩ = some (.slice bY my ky) ∧ w'.cell? ⟨w.heap.size, 0, none⟩ = some (.bool sx) ∧ w'.cell? ⟨w.heap.size, 1, none⟩ = some (.slice ax (nl nx) cx) ∧ w'.cell? ⟨w.heap.size, 2, none⟩ = some (.slice (some b') mx kx)) (first | exact ⟨j0, j1, j2, k0, k1, k2⟩ | go_keep)
      (first
        | (go_at_call 130; (with_reducible refine (HOt.out _ _ _ _ _ HD9.out.drew HD10.out.drew HM11.out.drew.d).mono ?_); rintro e w12 ⟨a11, c11, rfl, hd11, hb11⟩; have HM12 := Lib.hid (HM11.out.drew.call hb11); have HD3 := Lib.hid (HD3.out.drew.mono hb11); have HD4 := Lib.hid (HD4.out.drew.mono hb11); have HD6 := Lib.hid (HD6.out.drew.mono hb11); have HD9 := Lib.hid (HD9.out.drew.mono hb11); have HD10 := Lib.hid (HD10.out.drew.mono hb11); have HD11 := Lib.hid hd11; obtain ⟨j0, j1, j2⟩ := S3 (HM12.out.box (i := 1) rfl); obtain ⟨k0, k1, k2⟩ := S3 (HM12.out.box (i := 2) rfl))
        | (go_at_call 125; (with_reducible refine (HUy.out _ HM12.out.d).mono ?_); rintro e w13 ⟨a12, c12, rfl, hd12, hb12⟩; have HM13 := Lib.hid (HM12.out.call hb12); have HD3 := Lib.hid (HD3.out.mono hb12); have HD4 := Lib.hid (HD4.out.mono hb12); have HD6 := Lib.hid (HD6.out.mono hb12); have HD9 := Lib.hid (HD9.out.mono hb12); have HD10 := Lib.hid (HD10.out.mono hb12); have HD11 := Lib.hid (HD11.out.mono hb12); have HD12 := Lib.hid hd12; obtain ⟨j0, j1, j2⟩ := S3 (HM13.out.box (i := 1) rfl); obtain ⟨k0, k1, k2⟩ := S3 (HM13.out.box (i := 2) rfl))
        | (go_at_call 130; (with_reducible refine (HOl.out _ _ _ _ _ HD12.out HD10.out HM13.out.d).mono ?_); rintro e w14 ⟨a13, c13, rfl, hd13, hb13⟩; have HM14 := Lib.hid (HM13.out.call hb13); have HD3 := Lib.hid (HD3.out.mono hb13); have HD4 := Lib.hid (HD4.out.mono hb13); have HD6 := Lib.hid (HD6.out.mono hb13); have HD9 := Lib.hid (HD9.out.mono hb13); have HD10 := Lib.hid (HD10.out.mono hb13); have HD11 := Lib.hid (HD11.out.mono hb13); have HD13 := Lib.hid hd13; obtain ⟨j0, j1, j2⟩ := S3 (HM14.out.box (i := 1) rfl); obtain ⟨k0, k1, k2⟩ := S3 (HM14.out.box (i := 2) rfl))
        | (go_at_call 127; (with_reducible refine (HMl.out _ _ _ _ _ HD6.out HD13.out).mono ?_); rintro e w15 ⟨a14, c14, rfl, hd14, hb14⟩; have HM15 := Lib.hid (HM14.out.call hb14); have HD3 := Lib.hid (HD3.out.mono hb14); have HD4 := Lib.hid (HD4.out.mono hb14); have HD6 := Lib.hid (HD6.out.mono hb14); have HD9 := Lib.hid (HD9.out.mono hb14); have HD10 := Lib.hid (HD10.out.mono hb14); have HD11 := Lib.hid (HD11.out.mono hb14); have HD14 := Lib.hid hd14; obtain ⟨j0, j1, j2⟩ := S3 (HM15.out.box (i := 1) rfl); obtain ⟨k0, k1, k2⟩ := S3 (HM15.out.box (i := 2) rfl))
        | (go_at_call 126; (with_reducible refine (build_any r a11 c11 (T / l) (V * (dy / l)) _ _ HD11.out (BotIn.more E3.out HD14.out) (.inr E2.out)).mono ?_); rintro e w16 ⟨v, rfl, hv, hb15⟩; have HM16 := Lib.hid (HM15.out.call hb15); have HD3 := Lib.hid (HD3.out.mono hb15); have HD4 := Lib.hid (HD4.out.mono hb15); have HD6 := Lib.hid (HD6.out.mono hb15); have HD9 := Lib.hid (HD9.out.mono hb15); have HD10 := Lib.hid (HD10.out.mono hb15); have HD11 := Lib.hid (HD11.out.mono hb15); rw [← E1.out] at hv; have HV := Lib.hid hv; obtain ⟨a19, c19, b19, m19, k19, rfl, _, _⟩ := hv; obtain ⟨j0, j1, j2⟩ := S3 (HM16.out.box (i := 1) rfl); obtain ⟨k0, k1, k2⟩ := S3 (HM16.out.box (i := 2) rfl); obtain ⟨r0, r1, r2⟩ := S3 (HM16.out.box (i := 0) rfl); have r3 := (HM16.out.box (i := 0) rfl).free 0; have r4 := (HM16.out.box (i := 0) rfl).free 1; have r5 := (HM16.out.box (i := 0) rfl).free 2))
    clear hd11 hb11 hd12 hb12 HD12 hd13 hb13 HD13 hd14 hb14 HD14 hb15
    generalize hXe : World.setCell (World.setCell (World.setCell w16 _ _) _ _) _ _ = X
    have hX := fill3 (HM16.out.box (i := 0) rfl) hXe
    clear hXe
    go_wp2_with fail
    exact bodyPost_ret (v := _) (results_cell Tryz.results62 _ _ _ _ rfl (box_load _ hX.box Tryz.underlying97 rfl infoF)) rfl ⟨_, rfl, HV.out.filled (HM16.out.box (i := 0) rfl) zF3_no hX, (HM16.out.d).trans (hX.below _ (by first | exact Nat.le_refl _ | omega))⟩
theorem Add_any {w : World} {u v : Value} {x y : Rat} (hx : FracAt w u x) (hy : FracAt w v y) (hsx : Small x) (hsy : Small y) (hE : Env w) : Calls Tryz.prog 62 #[u, v] w (GivesF w (x + y)) := by
  by_cases hd : x.den = 1 ∧ y.den = 1
  · obtain ⟨ax, cx, bx, mx, kx, rfl, hdx, hBx⟩ := hx
    obtain ⟨ay, cy, bY, my, ky, rfl, hdy, hBy⟩ := hy
    rcases hBx with ⟨_, e⟩ | ⟨h, _⟩
    · rcases hBy with ⟨_, e2⟩ | ⟨h, _⟩
      · rw [e, e2]
        exact add_one _ _ ax ay cx cy _ _ _ hdx hdy hsx.1 hsy.1 fun r T h => add_ints hd.1 hd.2 h
      · exact absurd hd.2 h
    · exact absurd hd.1 h
  · exact add_more hx hy hsx hsy hE hd
end Go.Proofs.YtlncagdekfjinaaGreatDoor
