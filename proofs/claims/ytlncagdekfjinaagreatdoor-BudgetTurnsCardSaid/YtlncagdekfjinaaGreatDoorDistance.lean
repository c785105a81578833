/- (limbs).distance. -/
import Derived.Test.YtlncagdekfjinaaGreatDoorRoom
import Derived.Test.YtlncagdekfjinaaGreatDoorParts
import Derived.Test.YtlncagdekfjinaaGreatDoorLow
import Derived.StillTailTactics
import Derived.Deep.RegionWith
import Derived.Deep.DeepCutAuto
namespace Go.Proofs.YtlncagdekfjinaaGreatDoor
open Go.RowKit Go.Sort Dg
theorem lose_value {G m U c z : Nat} (h : U + z = G % B ^ m + c * B ^ m) : patch G 0 m U + z = G + c * B ^ m := by
  have h1 := Nat.mod_add_div G (B ^ m)
  unfold patch
  rw [Nat.pow_zero, Nat.mod_one, Nat.mul_one, Nat.zero_add, Nat.zero_add]
  rw [Nat.mul_comm] at h1
  omega
set_option maxRecDepth 100000 in
set_option maxHeartbeats 4000000 in
theorem distance_any (base : Nat) (ad : Option Addr) (nd cd : Nat) (ax ay : Option Addr) (cx cy X Y a b : Nat) (w : World) (hR : Room w base ad cd) (hbase : base ≤ w.heap.size) (_hnd : nd ≤ cd)
    (hx : DigsAt w ax (nl X) cx X) (hy : DigsAt w ay (nl Y) cy Y) (hk : nl X ≤ 68719476730) (hmk : nl Y ≤ nl X) (ha : a < B) (hb : b < B)
    (hsx : ∀ c d, ax = some c → ad = some d → c.block ≠ d.block) (hsy : ∀ c d, ay = some c → ad = some d → c.block ≠ d.block) :
    Calls Tryz.prog 184 #[.slice ad nd cd, .slice ax (nl X) cx, .slice ay (nl Y) cy, .agg #[u64 a, u64 b]] w fun e w' =>
      ∃ g cap, e = .returned (.slice (some ⟨g, 0, none⟩) (nl (far X Y a b)) cap) ∧ DigsAt w' (some ⟨g, 0, none⟩) (nl (far X Y a b)) cap (far X Y a b) ∧ Room w' base (some ⟨g, 0, none⟩) cap ∧
        ((∃ d, ad = some d ∧ d.block = g) ∨ w.heap.size ≤ g) ∧ But g w w' := by
  have hxl := lt_nl X
  have hyl := lt_nl Y
  generalize nl X = k at *
  generalize nl Y = m at *
  have HG := Lib.hid (fun M (hM : Room M base ad cd) (hb : base ≤ M.heap.size) => grow_any base ad cd (k + 1) M hM (by omega) hb)
  go_enter Tryz.func184, Tryz.ntmps184
  go_wp2_with fail
  obtain ⟨w0, ew⟩ : ∃ w0, w.alloc (Obj.cells #[Go.Proofs.YtlncagdekfjinaaGreatDoor.u64 a, Go.Proofs.YtlncagdekfjinaaGreatDoor.u64 b] 248) = w0 := ⟨_, rfl⟩
  have hb0 : Below w.heap.size w w0 := by rw [← ew]; exact (Below.refl _ w).alloc (Nat.le_refl _) _
  have hz0 : w0.heap.size = w.heap.size + 1 := by rw [← ew]; simp
  have hm1 : w0.cell? ⟨w.heap.size, 0, none⟩ = some (u64 a) := by rw [← ew, World.cell?_alloc_new]; rfl
  have hm2 : w0.cell? ⟨w.heap.size, 1, none⟩ = some (u64 b) := by rw [← ew, World.cell?_alloc_new]; rfl
  rw [ew]
  clear ew
  have hg := HG.out w0 (hR.mono hb0) (by omega)
  rw [show ((k + 1 : Nat) : Int) = (k : Int) + 1 by omega] at hg
  refine hg.mono ?_
  rintro e w1 ⟨a1, c1, rfl, hc1, hR1, hwhere⟩
  obtain ⟨g, rfl, hgb, hgl⟩ : ∃ g, a1 = some ⟨g, 0, none⟩ ∧ base ≤ g ∧ g < w1.heap.size := by
    rcases hR1 with ⟨_, h⟩ | ⟨g, cur, e, hg, hh, _⟩
    · omega
    · exact ⟨g, e, hg, (Array.getElem?_eq_some_iff.1 hh).1⟩
  have hbut1 : But g w0 w1 ∧ ((∃ d, ad = some d ∧ d.block = g) ∨ w.heap.size + 1 ≤ g) ∧ g ≠ w.heap.size := by
    rcases hwhere with ⟨h1, rfl⟩ | ⟨h1, h2, _⟩
    · refine ⟨But.of_below (Below.refl _ _), .inl ⟨_, h1.symm, rfl⟩, ?_⟩
      rcases hR with ⟨h, _⟩ | ⟨k, cur, e, _, hh, _⟩
      · rw [h] at h1; cases h1
      · rw [← h1] at e; cases e; exact Nat.ne_of_lt (Array.getElem?_eq_some_iff.1 hh).1
    · cases h1; exact ⟨But.of_below h2, .inr (by omega), by omega⟩
  obtain ⟨hbut1, hwh, hgw⟩ := hbut1
  obtain ⟨q1, q2, q3⟩ := hR1.cleared hc1
  have hclr := fun ty => clear_run ty g (k + 1) c1 w1 (by omega) q1 q2
  have hR2 := Room.setCells g (List.replicate (k + 1) (u64 0)) 0 w1 hR1
  have hbut2 := hbut1.trans (setCells_but g (List.replicate (k + 1) (u64 0)) 0 w1)
  have hz2 := Nat.lt_of_lt_of_le hgl (setCells_but g (List.replicate (k + 1) (u64 0)) 0 w1).size
  have hgx : ∀ c, ax = some c → k ≠ 0 → c.block ≠ g := by
    intro c hc h0
    rcases hwh with ⟨d, h1, h2⟩ | h1
    · rw [← h2]; exact hsx c d hc h1
    · obtain ⟨b3, o3, e, hb3, _⟩ := hx.cells h0
      rw [e] at hc; cases hc; show b3 ≠ g; omega
  have hgy : ∀ c, ay = some c → m ≠ 0 → c.block ≠ g := by
    intro c hc h0
    rcases hwh with ⟨d, h1, h2⟩ | h1
    · rw [← h2]; exact hsy c d hc h1
    · obtain ⟨b3, o3, e, hb3, _⟩ := hy.cells h0
      rw [e] at hc; cases hc; show b3 ≠ g; omega
  have hx2 := hbut2.digs (hx.mono hb0) hgx
  have hy2 := hbut2.digs (hy.mono hb0) hgy
  have hm3 := (World.cell?_of_block (a := ⟨w.heap.size, 0, none⟩) (hbut2.block w.heap.size (by omega) (fun e => hgw e.symm))).trans hm1
  have hm4 := (World.cell?_of_block (a := ⟨w.heap.size, 1, none⟩) (hbut2.block w.heap.size (by omega) (fun e => hgw e.symm))).trans hm2
  have HGX := Lib.hid hgx
  have HGY := Lib.hid hgy
  have HWH := Lib.hid hwh
  have HB2 := Lib.hid hbut2
  have HR2 := Lib.hid hR2
  have HM2 := Lib.hid hm2
  have HB0 := Lib.hid hb0
  clear hwhere hgx hgy hwh hR1 q1 q2 hbut1 hbut2 hR2 HG hsx hsy hg hm1 hm2
  go_upto_region 3 with fail
  generalize w1.setCells g 0 (List.replicate (k + 1) (u64 0)) = w2 at *
  clear hclr
  have hxa : X * a < B ^ (k + 1) := by rw [Nat.pow_succ]; exact Nat.mul_lt_mul'' hxl ha
  have hlow := q3.low k (by omega)
  rw [Nat.zero_mod] at hlow
  have HGT := Lib.hid (gainTimes_any g 0 k c1 0 ax cx X a w2.drew hlow (B_pow_pos k) (by omega) (hx2.drawn 1) HGX.out ha)
  have t1 : w2.cell? ⟨g, k, none⟩ = some (u64 0) := by
    have := (q3 k (by simp)).1; rwa [digs_get (by omega), Nat.zero_add, dig_zero] at this
  have t2 : w2.frozen? ⟨g, k, none⟩ = false := by
    have := (q3 k (by simp)).2; rwa [Nat.zero_add] at this
  have j1 : (0 : Int) ≤ (k : Int) := by omega
  have j2 : (k : Int) < (k : Int) + 1 := by omega
  have t3 : ∀ U, (rowW w2.drew g 0 k U).cell? ⟨g, k, none⟩ = some (u64 0) := fun U => (rowW_other (.inr (.inr (by simp)))).trans t1
  have t4 : ∀ U, (rowW w2.drew g 0 k U).frozen? ⟨g, k, none⟩ = false := fun U => by unfold rowW; rw [frozen?_putRow]; exact t2
  have key : ∀ c U, c < B → U < B ^ k → U + c * B ^ k = 0 + X * a → ∀ wx, (rowW w2.drew g 0 k U).setCell ⟨g, k, none⟩ (u64 c) = wx → Row wx g 0 (k + 1) (X * a) ∧ Room wx base (some ⟨g, 0, none⟩) c1 ∧ But g w0 wx := by
    intro c U hc hU hval wx hwx
    have h1 := rowW_top (w := w2.drew) (b := g) (off := 0) (n := k) (V := 0) q3 hU hc (B_pow_pos _)
    rw [Nat.zero_add] at h1 hval
    rw [h1, hval] at hwx
    subst hwx
    exact ⟨q3.row (X * a), (HR2.out.drawn 1).rowW .., HB2.out.trans ((But.of_below ((Below.refl _ w2).drew)).trans (rowW_but ..))⟩
  have KEY := Lib.hid key
  clear key
  go_cut [33] (fun v wx => ∃ c : Nat, v = u64 c ∧ Hid (Row wx g 0 (k + 1) (X * a)) ∧ Hid (Room wx base (some ⟨g, 0, none⟩) c1) ∧ Hid (But g w0 wx))
  case first =>
    go_region_with (go_at_call 174; refine HGT.out.mono ?_; rintro e w' ⟨c, U, rfl, hc, hU, hval, rfl⟩)
    all_goals (go_wp2_with fail; go_meet; exact ⟨c, rfl, Lib.hid (KEY.out c U hc hU hval _ rfl).1, Lib.hid (KEY.out c U hc hU hval _ rfl).2.1, Lib.hid (KEY.out c U hc hU hval _ rfl).2.2⟩)
  case rest =>
    obtain ⟨c, rfl, HR3, HRM, HBT⟩ := hcut
    clear KEY HGT t1 t2 t3 t4 hlow q3 HR2 HB2 hm3 hm4 hx2 hy2 hz2
    have hm5 := (World.cell?_of_block (a := ⟨w.heap.size, 1, none⟩) (HBT.out.block w.heap.size (by omega) (fun e => hgw e.symm))).trans HM2.out
    have hy3 := HBT.out.digs (hy.mono HB0.out) HGY.out
    have hlow := HR3.out.low m (by omega)
    have HLT := Lib.hid (loseTimes_any g 0 m c1 (X * a % B ^ m) ay cy Y b wc.drew hlow (Nat.mod_lt _ (B_pow_pos m)) (by omega) (hy3.drawn 1) HGY.out hb)
    clear hlow hy3
    have key : ∀ c U, c < B → U < B ^ m → U + Y * b = X * a % B ^ m + c * B ^ m → ∀ wx, rowW wc.drew g 0 m U = wx →
        ∃ V, V < B ^ (k + 1) ∧ V + Y * b = X * a + c * B ^ m ∧ Row wx g 0 (k + 1) V ∧ Room wx base (some ⟨g, 0, none⟩) c1 ∧ But g w0 wx := by
      intro c U hc hU hval wx hwx
      have h1 := rowW_part (w := wc.drew) (i := 0) (n := m) (u := U) HR3.out (by omega) hU
      rw [Nat.add_zero] at h1
      rw [h1] at hwx
      subst hwx
      exact ⟨patch (X * a) 0 m U, patch_lt hxa (by omega) hU, lose_value hval, HR3.out.row _, (HRM.out.drawn 1).rowW .., HBT.out.trans ((But.of_below ((Below.refl _ wc).drew)).trans (rowW_but ..))⟩
    have KEY := Lib.hid key
    clear key
    go_upto_region 4 with fail
    go_cut [9] (fun v wx => ∃ c V : Nat, v = Go.Proofs.YtlncagdekfjinaaGreatDoor.u64 c ∧ c < B ∧ V < B ^ (k + 1) ∧ Hid (V + Y * b = X * a + c * B ^ m) ∧ Hid (Row wx g 0 (k + 1) V) ∧ Hid (Room wx base (some ⟨g, 0, none⟩) c1) ∧ Hid (But g w0 wx))
    case first =>
      go_region_with (go_at_call 211; refine HLT.out.mono ?_; rintro e w' ⟨c, U, rfl, hc, hU, hval, rfl⟩)
      all_goals (go_wp2_with fail; go_meet; obtain ⟨V, v1, v2, v3, v4, v5⟩ := KEY.out c U hc hU hval _ rfl; exact ⟨c, V, rfl, hc, v1, Lib.hid v2, Lib.hid v3, Lib.hid v4, Lib.hid v5⟩)
    case rest =>
      obtain ⟨c, V, rfl, hc, hV, HV, HR4, HRM4, HBT4⟩ := hcut
      clear KEY HLT HR3 HRM HBT hm5
      go_wp2_with fail
      go_loopw [9, 10] (fun v9 v10 wr => ∃ c j V : Nat, v9 = Go.Proofs.YtlncagdekfjinaaGreatDoor.u64 c ∧ v10 = .int .i64 j ∧ m ≤ j ∧ j ≤ k + 1 ∧ c < B ∧ (j = m ∨ c ≤ 1) ∧ V < B ^ (k + 1) ∧ Hid (V + Y * b = X * a + c * B ^ j) ∧ Hid (Row wr g 0 (k + 1) V) ∧ Hid (Room wr base (some ⟨g, 0, none⟩) c1) ∧ Hid (But g w0 wr)) (fun _ v10 _ => k + 1 - (intOf v10).toNat)
      case atStart => exact ⟨c, m, V, rfl, rfl, Nat.le_refl _, by omega, hc, .inl rfl, hV, HV, HR4, HRM4, HBT4⟩
      case round =>
        clear HV HR4 HRM4 HBT4 hc hV
        obtain ⟨c, j, V, rfl, rfl, hmj, hjk, hc, hc1', hV, HV, HR4, HRM4, HBT4⟩ := hrel
        by_cases hj : j < k + 1
        · have p1 : wr.cell? ⟨g, j, none⟩ = some (Go.Proofs.YtlncagdekfjinaaGreatDoor.u64 (dig V j)) := by
            have := (HR4.out j (by simpa using hj)).1; rwa [digs_get hj, Nat.zero_add] at this
          have p2 : wr.frozen? ⟨g, j, none⟩ = false := by
            have := (HR4.out j (by simpa using hj)).2; rwa [Nat.zero_add] at this
          have hsub := fun w => sub64_n (dig V j) c hc w
          have hs := sb_ow (x := dig V j) (z := c) (dig_lt _ _) (Nat.le_of_lt hc)
          have hsl := sb_lt (dig V j) c
          have hol := ow_le (dig V j) c
          generalize sb (dig V j) c = s at *
          generalize ow (dig V j) c = o at *
          have HSS := Lib.hid hs
          clear hs
          obtain ⟨r1, r2⟩ := HR4.out.set (i := j) (d := s) hj hsl rfl
          rw [Nat.zero_add] at r1
          have R1 := Lib.hid r1
          have R2 := Lib.hid r2
          clear r1 r2
          go_wp2
          go_roundw
          case rel =>
            refine ⟨o, j + 1, put V j s, rfl, by go_num, by omega, by omega, by have := B_two; omega, .inr hol, put_lt hV hj hsl, Lib.hid (sub_step0' HV.out HSS.out), ?_, ?_, ?_⟩
            · rw [R1.out]; exact Lib.hid R2.out
            · exact Lib.hid (HRM4.out.setCell g j _)
            · exact Lib.hid (HBT4.out.trans (setCell_but ..))
          case measure => simp [intOf]; omega
        · obtain rfl : j = k + 1 := by omega
          have hcc : c ≤ 1 := by omega
          have hgl4 : g < wr.heap.size := by
            rcases HRM4.out with ⟨h, _⟩ | ⟨g', cur, e, _, hh, _⟩
            · cases h
            · cases e; exact (Array.getElem?_eq_some_iff.1 hh).1
          by_cases hc0 : c = 0
          · subst hc0
            have hf : far X Y a b = V := far_low (by have := HV.out; rwa [Nat.zero_mul] at this)
            have HF := Lib.hid hf
            clear hf
            have hd : DigsAt wr (some ⟨g, 0, none⟩) (k + 1) c1 V := HR4.out.digs hV hgl4 hc1
            go_wp2_with fail
            refine (trim_any _ (k + 1) c1 V _ hd (by omega)).mono ?_
            rintro e w' ⟨rfl, rfl⟩
            go_wp2
            go_ret
            rw [HF.out]
            refine ⟨g, c1, rfl, hd.shrink, HRM4.out, ?_, ?_⟩
            · rcases HWH.out with h | h
              · exact .inl h
              · exact .inr (by omega)
            · exact (But.of_below HB0.out).trans HBT4.out
          · obtain rfl : c = 1 := by omega
            go_wp2_with fail
            go_loopw [9, 67] (fun v9 v67 wr2 => ∃ c j Z : Nat, v9 = Go.Proofs.YtlncagdekfjinaaGreatDoor.u64 c ∧ v67 = .int .i64 j ∧ j ≤ k + 1 ∧ c ≤ 1 ∧ Z < B ^ (k + 1) ∧ Hid (Z % B ^ j + V % B ^ j = c * B ^ j) ∧ Hid (Z / B ^ j = V / B ^ j) ∧ Hid (Row wr2 g 0 (k + 1) Z) ∧ Hid (Room wr2 base (some ⟨g, 0, none⟩) c1) ∧ Hid (But g w0 wr2)) (fun _ v67 _ => k + 1 - (intOf v67).toNat)
            case atStart => exact ⟨0, 0, V, rfl, rfl, Nat.zero_le _, Nat.zero_le _, hV, Lib.hid (by simp [Nat.mod_one]), Lib.hid rfl, HR4, HRM4, HBT4⟩
            case round =>
              clear HR4 HRM4 HBT4
              obtain ⟨c, j, Z, rfl, rfl, hjk, hc, hZ, HZ, HU, HR5, HRM5, HBT5⟩ := hrel
              by_cases hj : j < k + 1
              · have ed : dig Z j = dig V j := by unfold dig; rw [HU.out]
                have p1 : wr.cell? ⟨g, j, none⟩ = some (Go.Proofs.YtlncagdekfjinaaGreatDoor.u64 (dig V j)) := by
                  have := (HR5.out j (by simpa using hj)).1; rwa [digs_get hj, Nat.zero_add, ed] at this
                have p2 : wr.frozen? ⟨g, j, none⟩ = false := by
                  have := (HR5.out j (by simpa using hj)).2; rwa [Nat.zero_add] at this
                have hsub : ∀ w, (callFunc 212 #[.int .u64 0, Go.Proofs.YtlncagdekfjinaaGreatDoor.u64 (dig V j), Go.Proofs.YtlncagdekfjinaaGreatDoor.u64 c]).run Tryz.prog w = .ok (.value (.tuple #[Go.Proofs.YtlncagdekfjinaaGreatDoor.u64 (sb 0 (dig V j + c)), Go.Proofs.YtlncagdekfjinaaGreatDoor.u64 (ow 0 (dig V j + c))])) w := fun w => sub64 0 (dig V j) c (dig_lt _ _) hc w
                have hs := sb_ow (x := 0) (z := dig V j + c) B_pos (by have := dig_lt V j; omega)
                have hsl := sb_lt 0 (dig V j + c)
                have hol := ow_le 0 (dig V j + c)
                rw [Nat.zero_add] at hs
                generalize sb 0 (dig V j + c) = s at *
                generalize ow 0 (dig V j + c) = o at *
                obtain ⟨n1, n2⟩ := neg_step hsl HZ.out HU.out hs
                have N1 := Lib.hid n1
                have N2 := Lib.hid n2
                obtain ⟨r1, r2⟩ := HR5.out.set (i := j) (d := s) hj hsl rfl
                rw [Nat.zero_add] at r1
                have R1 := Lib.hid r1
                have R2 := Lib.hid r2
                clear r1 r2 n1 n2 hs ed
                go_wp2
                go_roundw
                case rel =>
                  refine ⟨o, j + 1, put Z j s, rfl, by go_num, by omega, hol, put_lt hZ hj hsl, N1, N2, ?_, ?_, ?_⟩
                  · rw [R1.out]; exact Lib.hid R2.out
                  · exact Lib.hid (HRM5.out.setCell g j _)
                  · exact Lib.hid (HBT5.out.trans (setCell_but ..))
                case measure => simp [intOf]; omega
              · obtain rfl : j = k + 1 := by omega
                have hZV : Z + V = c * B ^ (k + 1) := by
                  have := HZ.out; rwa [Nat.mod_eq_of_lt hZ, Nat.mod_eq_of_lt hV] at this
                have hYb : Y * b < B ^ (k + 1) := by
                  rw [Nat.pow_succ]; exact Nat.mul_lt_mul'' (Nat.lt_of_lt_of_le hy.lt (Nat.pow_le_pow_right B_pos hmk)) hb
                have hHV := HV.out
                have hce : c = 1 := by
                  rcases (by omega : c = 0 ∨ c = 1) with rfl | rfl
                  · exfalso; rw [Nat.zero_mul] at hZV; omega
                  · rfl
                subst hce
                have HF := Lib.hid (far_high hHV (by rw [hZV]) : far X Y a b = Z)
                have hgl5 : g < wr.heap.size := by
                  rcases HRM5.out with ⟨h, _⟩ | ⟨g', cur, e, _, hh, _⟩
                  · cases h
                  · cases e; exact (Array.getElem?_eq_some_iff.1 hh).1
                have hd : DigsAt wr (some ⟨g, 0, none⟩) (k + 1) c1 Z := HR5.out.digs hZ hgl5 hc1
                clear hZV hHV
                go_wp2_with fail
                refine (trim_any _ (k + 1) c1 Z _ hd (by omega)).mono ?_
                rintro e w' ⟨rfl, rfl⟩
                go_wp2
                go_ret
                rw [HF.out]
                refine ⟨g, c1, rfl, hd.shrink, HRM5.out, ?_, ?_⟩
                · rcases HWH.out with h | h
                  · exact .inl h
                  · exact .inr (by omega)
                · exact (But.of_below HB0.out).trans HBT5.out
end Go.Proofs.YtlncagdekfjinaaGreatDoor
