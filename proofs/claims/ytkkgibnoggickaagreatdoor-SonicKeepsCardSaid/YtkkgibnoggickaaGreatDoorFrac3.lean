/- Neg, Abs, inverse. -/
import Derived.Test.YtkkgibnoggickaaGreatDoorFrac2
import Derived.Deep.RegionHeld3
namespace Go.Proofs.YtkkgibnoggickaaGreatDoor
open Go.RowKit Go.Sort Dg Fr

/-- A slice that is handed on as a denominator. -/
def GivesBot (w : World) (d : Nat) (e : Ending) (w' : World) : Prop := ∃ a n c, e = .returned (.slice a n c) ∧ BotIn w' (.slice a n c) d ∧ Below w.heap.size w w'
theorem cloneB {w : World} {ab : Option Addr} {nb cb d : Nat} (h : BotAt w (.slice ab nb cb) d) (hd : d ≠ 0) (hn : nl d ≤ 1073741800) :
    Calls Tryz.prog 106 #[.slice ab nb cb] w (GivesBot w d) := by
  rcases h with ⟨rfl, e⟩ | ⟨_, a', c', e, hD⟩
  · rw [e]
    refine (clone_any none 0 0 0 w (DigsAt.zero _ _ _) (by omega)).mono ?_
    rintro e w1 ⟨a1, c1, rfl, _, hb, _, hR, h0⟩
    obtain rfl := h0 rfl
    rcases hR with ⟨_, rfl⟩ | ⟨g, cur, e, _⟩
    · exact ⟨_, _, _, rfl, .inl ⟨rfl, rfl⟩, hb⟩
    · cases e
  · rw [e]
    refine (clone_any (some a') (nl d) c' d w hD (by omega)).mono ?_
    rintro e w1 ⟨a1, c1, rfl, h1, hb, _⟩
    exact ⟨_, _, _, rfl, .inr ⟨hd, _, _, rfl, h1⟩, hb⟩
theorem frac_opp_self (q : Rat) : frac (!neg q) (top q) q.den = -q := by rw [← frac_opp, frac_self]
theorem DigsAt.drew {w : World} {a : Option Addr} {m cap Y : Nat} (h : DigsAt w a m cap Y) : DigsAt w.drew a m cap Y := ⟨h.lt, h.fit, h.cells⟩
theorem S3 {w : World} {g : Nat} {t : TypeId} {a b c : Value} (H : Box w g t #[a, b, c]) : w.cell? ⟨g, 0, none⟩ = some a ∧ w.cell? ⟨g, 1, none⟩ = some b ∧ w.cell? ⟨g, 2, none⟩ = some c :=
  ⟨H.at_ rfl, H.at_ rfl, H.at_ rfl⟩
theorem fill3 {w X : World} {g : Nat} {t : TypeId} {x0 x1 x2 b0 b1 b2 : Value} (h : Box w g t #[x0, x1, x2]) (e : ((w.setCell ⟨g, 0, none⟩ b0).setCell ⟨g, 1, none⟩ b1).setCell ⟨g, 2, none⟩ b2 = X) : Filled g t [b0, b1, b2] w X := by
  rw [← e]
  exact filled h [b0, b1, b2] rfl
/-- Small enough. -/
def Small (q : Rat) : Prop := nl (top q) ≤ 38 ∧ nl q.den ≤ 38

set_option maxHeartbeats 1000000 in
theorem Neg_any {w : World} {v : Value} {q : Rat} (h : FracAt w v q) (hs : Small q) : Calls Tryz.prog 89 #[v] w (GivesF w (-q)) := by
  rw [← frac_opp_self q]
  obtain ⟨a, c, ab, nb, cb, rfl, hd, hB⟩ := h
  have hq : top q = 0 ∨ Nat.Coprime (top q) q.den := .inr (red q)
  have hdn := den_ne q
  obtain ⟨hs1, hs2⟩ := hs
  have HC1 := Lib.hid (fun W (hW : Below w.heap.size w W) => clone_any a (nl (top q)) c (top q) W (hd.mono hW) (by omega))
  have HC2 := Lib.hid (fun W (hW : Below w.heap.size w W) => cloneB (hB.mono hW) hdn (by omega))
  generalize neg q = s at *
  generalize top q = n at *
  generalize q.den = d at *
  have HM := Lib.hid (((Mem.start w).new 28 [.bool s, .slice a (nl n) c, .slice ab nb cb]).new' (n := w.heap.size + 1) (by simp) 28 [.bool false, .slice none 0 0, .slice none 0 0])
  have HQ := Lib.hid hq
  clear hq hd hB
  go_enter Tryz.func89, Tryz.ntmps89
  go_wp2_with fail
  generalize hW : (w.alloc (.cells _ 28)).alloc (.cells _ 28) = W at HM ⊢
  clear hW
  obtain ⟨k0, k1, k2⟩ := S3 (HM.out.box (i := 1) rfl)
  go_region_held3 (fun w' => w'.cell? ⟨w.heap.size, 0, none⟩ = some (.bool s) ∧ w'.cell? ⟨w.heap.size, 1, none⟩ = some (.slice a (nl n) c) ∧ w'.cell? ⟨w.heap.size, 2, none⟩ = some (.slice ab nb cb)) (first | exact ⟨k0, k1, k2⟩ | go_keep)
    (first
      | (go_at_call 106; (with_reducible refine (HC1.out _ HM.out.drew.d).mono ?_); rintro e w1 ⟨a1, c1, rfl, hd1, hb1, _⟩; have HM1 := Lib.hid (HM.out.drew.call hb1); obtain ⟨k0, k1, k2⟩ := S3 (HM1.out.box (i := 1) rfl))
      | (go_at_call 106; (with_reducible refine (HC2.out _ HM1.out.d).mono ?_); rintro e w2 ⟨a2, n2, c2, rfl, hd2, hb2⟩; have HM2 := Lib.hid (HM1.out.call hb2); have HD2 := Lib.hid (hd1.mono hb2); obtain ⟨k0, k1, k2⟩ := S3 (HM2.out.box (i := 1) rfl))
      | (go_at_call 94; (with_reducible refine (build_any (!s) a1 c1 n d _ _ HD2.out hd2 HQ.out).mono ?_); rintro e w3 ⟨v, rfl, hv, hb3⟩; have HM3 := Lib.hid (HM2.out.call hb3); have HV := Lib.hid hv; obtain ⟨a3, c3, a4, n4, c4, rfl, _, _⟩ := hv; obtain ⟨k0, k1, k2⟩ := S3 (HM3.out.box (i := 1) rfl); obtain ⟨r0, r1, r2⟩ := S3 (HM3.out.box (i := 0) rfl); have r3 := (HM3.out.box (i := 0) rfl).free 0; have r4 := (HM3.out.box (i := 0) rfl).free 1; have r5 := (HM3.out.box (i := 0) rfl).free 2))
  generalize hXe : World.setCell (World.setCell (World.setCell w3 _ _) _ _) _ _ = X
  have hX := fill3 (HM3.out.box (i := 0) rfl) hXe
  clear hXe
  go_wp2_with fail
  exact bodyPost_ret (v := _) (results_cell Tryz.results89 _ _ _ _ rfl (box_load _ hX.box Tryz.underlying28 rfl infoF)) rfl ⟨_, rfl, HV.out.filled (HM3.out.box (i := 0) rfl) zF3_no hX, (HM3.out.d).trans (hX.below _ (by first | exact Nat.le_refl _ | omega))⟩
end Go.Proofs.YtkkgibnoggickaaGreatDoor
