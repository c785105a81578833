/- Abs, inverse, over, Div, Cmp. -/
import Derived.Test.YtbdgjnjpckhpfaaGreatDoorFrac2
namespace Go.Proofs.YtbdgjnjpckhpfaaGreatDoor
open Go.RowKit Go.Sort Dg Fr

theorem Small.inv {q : Rat} (h : Small q) : Small q⁻¹ := by
  obtain ⟨h1, h2⟩ := inv_parts q
  unfold Small top
  rw [h1, h2]
  split
  · exact ⟨by decide, by decide⟩
  · exact ⟨h.2, h.1⟩
theorem Small.neg {q : Rat} (h : Small q) : Small (-q) := by
  unfold Small top
  rw [show (-q).num = -q.num from rfl, show (-q).den = q.den from rfl, Int.natAbs_neg]; exact h
/-- The absolute value. -/
def absQ (q : Rat) : Rat := frac false (top q) q.den
theorem absQ_eq (q : Rat) : absQ q = if q.num < 0 then -q else q := by
  unfold absQ
  split
  · rename_i h
    have : neg q = true := by unfold neg; simpa using h
    rw [show false = !(neg q) by rw [this]; rfl, frac_opp_self]
  · rename_i h
    have : neg q = false := by unfold neg; simpa using h
    rw [← this]; exact frac_self q

/-- One fraction that is handed in, and its parts. -/
structure Parts (w : World) (v : Value) (q : Rat) (s : Bool) (a : Option Addr) (c n : Nat) (b : Option Addr) (m k d : Nat) : Prop where
  v : v = .agg #[.bool s, .slice a (nl n) c, .slice b m k]
  at_ : FracAt w (.agg #[.bool s, .slice a (nl n) c, .slice b m k]) q
  hs : neg q = s
  hn : top q = n
  hd : q.den = d
  digs : DigsAt w a (nl n) c n
  bot : BotAt w (.slice b m k) d
theorem FracAt.parts {w : World} {v : Value} {q : Rat} (h : FracAt w v q) : ∃ s a c n b m k d, Parts w v q s a c n b m k d := by
  have h0 := h
  obtain ⟨a, c, b, m, k, rfl, hd, hB⟩ := h
  exact ⟨_, a, c, _, b, m, k, _, rfl, h0, rfl, rfl, rfl, hd, hB⟩

set_option maxHeartbeats 1000000 in
theorem inverse_any {w : World} {v : Value} {q : Rat} (h : FracAt w v q) (hs : Small q) (hq0 : q ≠ 0) : Calls Tryz.prog 74 #[v] w (GivesF w q⁻¹) := by
  obtain ⟨i1, i2, i3⟩ := inv q hq0
  rw [i1]
  have HU := Lib.hid (fun W (hW : Below w.heap.size w W) => under_any (h.mono hW))
  obtain ⟨s, a, c, n, b, m, k, d, rfl, hat, e1, e2, e3, hd, hB⟩ := h.parts
  unfold Small at hs
  rw [e2, e3] at hs i2 ⊢
  rw [e2] at i3
  rw [e3] at HU
  rw [e1]
  obtain ⟨hs1, hs2⟩ := hs
  have HC1 := Lib.hid (fun W a c (h1 : DigsAt W a (nl d) c d) => clone_any a (nl d) c d W h1 (by omega))
  have HC2 := Lib.hid (fun W (hW : Below w.heap.size w W) => clone_any a (nl n) c n W (hd.mono hW) (by omega))
  have HQ := Lib.hid i2
  have HZ := Lib.hid i3
  clear hd hB e1 e2 e3 hat h i1 i2 i3 hq0
  have HM0 := Lib.hid (((Mem.start w).new' (n := w.heap.size) (by simp) 26 [.bool s, .slice a (nl n) c, .slice b m k]).new' (n := w.heap.size + 1) (by simp) 26 [.bool false, .slice none 0 0, .slice none 0 0])
  go_enter Tryz.func74, Tryz.ntmps74
  go_wp2_with fail
  generalize hW : (w.alloc (.cells _ 26)).alloc (.cells _ 26) = W at HM0 ⊢
  clear hW
  obtain ⟨k0, k1, k2⟩ := S3 (HM0.out.box (i := 1) rfl)
  go_region_held3 (fun w' => w'.cell? ⟨w.heap.size, 0, none⟩ = some (.bool s) ∧ w'.cell? ⟨w.heap.size, 1, none⟩ = some (.slice a (nl n) c) ∧ w'.cell? ⟨w.heap.size, 2, none⟩ = some (.slice b m k)) (first | exact ⟨k0, k1, k2⟩ | go_keep)
    (first
      | (go_at_call 23; (with_reducible refine (HU.out _ HM0.out.drew.d).mono ?_); rintro e w1 ⟨a1, c1, rfl, hd1, hb1⟩; have HM1 := Lib.hid (HM0.out.drew.call hb1); have HD1 := Lib.hid hd1; obtain ⟨k0, k1, k2⟩ := S3 (HM1.out.box (i := 1) rfl))
      | (go_at_call 87; (with_reducible refine (HC1.out _ _ _ HD1.out).mono ?_); rintro e w2 ⟨a2, c2, rfl, hd2, hb2, _⟩; have HM2 := Lib.hid (HM1.out.call hb2); have HD2 := Lib.hid hd2; obtain ⟨k0, k1, k2⟩ := S3 (HM2.out.box (i := 1) rfl))
      | (go_at_call 87; (with_reducible refine (HC2.out _ HM2.out.d).mono ?_); rintro e w3 ⟨a3, c3, rfl, hd3, hb3, _⟩; have HM3 := Lib.hid (HM2.out.call hb3); have HD2 := Lib.hid (HD2.out.mono hb3); have HD3 := Lib.hid hd3; obtain ⟨k0, k1, k2⟩ := S3 (HM3.out.box (i := 1) rfl))
      | (go_at_call 25; (with_reducible refine (build_any s a2 c2 d n _ _ HD2.out (BotIn.more HZ.out HD3.out) (.inr HQ.out)).mono ?_); rintro e w4 ⟨v, rfl, hv, hb4⟩; have HM4 := Lib.hid (HM3.out.call hb4); have HD2 := Lib.hid (HD2.out.mono hb4); have HD3 := Lib.hid (HD3.out.mono hb4); have HV := Lib.hid hv; obtain ⟨a9, c9, b9, m9, k9, rfl, _, _⟩ := hv; obtain ⟨k0, k1, k2⟩ := S3 (HM4.out.box (i := 1) rfl); obtain ⟨r0, r1, r2⟩ := S3 (HM4.out.box (i := 0) rfl); have r3 := (HM4.out.box (i := 0) rfl).free 0; have r4 := (HM4.out.box (i := 0) rfl).free 1; have r5 := (HM4.out.box (i := 0) rfl).free 2))
  clear hd1 hb1 HD1 hd2 hb2 hd3 hb3 hb4
  generalize hXe : World.setCell (World.setCell (World.setCell w4 _ _) _ _) _ _ = X
  have hX := fill3 (HM4.out.box (i := 0) rfl) hXe
  clear hXe
  go_wp2_with fail
  exact bodyPost_ret (v := _) (results_cell Tryz.results74 _ _ _ _ rfl (box_load _ hX.box Tryz.underlying26 rfl infoF)) rfl ⟨_, rfl, HV.out.filled (HM4.out.box (i := 0) rfl) zF3_no hX, (HM4.out.d).trans (hX.below _ (by first | exact Nat.le_refl _ | omega))⟩

end Go.Proofs.YtbdgjnjpckhpfaaGreatDoor
