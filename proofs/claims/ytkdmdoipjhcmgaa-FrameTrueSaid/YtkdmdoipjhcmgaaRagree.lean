/- Agree: the reference's function. -/
import Derived.Test.YtkdmdoipjhcmgaaRclk
import Derived.Test.YtkdmdoipjhcmgaaAwake
import Derived.Deep.RegionHeld3
namespace Go.Proofs.Ytkdmdoipjhcmgaa
open Go.RowKit

theorem clash_iff {d : Int} {c t : Ck} (hl : c.life = t.life) (hc : c.lo ≤ c.hi) (ht : t.lo ≤ t.hi) (hw : 0 ≤ wrg (t.clock - c.clock) d) : Clash d c t ↔ (atHi c t.clock d < t.lo ∨ t.hi < atLo c t.clock d) := by
  unfold Clash atHi atLo
  constructor
  · rintro ⟨_, h⟩
    omega
  · intro h
    exact ⟨hl, by omega⟩

theorem S3 {w w' : World} {p q : Addr} {a b c d x y z u : Int} (hP : CkAt w p ⟨a, b, c, d⟩) (hQ : CkAt w q ⟨x, y, z, u⟩) (hp : p.block < w.heap.size) (hq : q.block < w.heap.size) (hb : Below w.heap.size w w') :
    w'.cell? p = some (.int .i64 a) ∧ w'.cell? ⟨p.block, p.off + 1, none⟩ = some (.int .i64 b) ∧ w'.cell? ⟨p.block, p.off + 2, none⟩ = some (.int .i64 c) ∧ w'.cell? ⟨p.block, p.off + 3, none⟩ = some (.int .i64 d) ∧ w'.cell? ⟨q.block, q.off + 1, none⟩ = some (.int .i64 y) :=
  have h := hP.mono hb hp
  ⟨h.life, h.clock, h.lo, h.hi, (hQ.mono hb hq).clock⟩

theorem keepV1 {w wq wa : World} (hbq : Below w.heap.size w wq) (hba : Below wq.drew.heap.size wq.drew wa) : Below w.heap.size w wa := hbq.trans (Below.mono (undrew hba) hbq.size)
theorem keepV2 {w wq wa : World} (hbq : Below w.heap.size w wq) (hba : Below (wq.alloc (.cells #[.int .i64 0, .int .i64 0] 53)).drew.heap.size (wq.alloc (.cells #[.int .i64 0, .int .i64 0] 53)).drew wa) :
    Below w.heap.size w wa ∧ Two wa wq.heap.size 0 0 := by
  have h : Below (wq.alloc (.cells #[.int .i64 0, .int .i64 0] 53)).heap.size (wq.alloc (.cells #[.int .i64 0, .int .i64 0] 53)) wa := undrew hba
  exact ⟨hbq.trans ((after_alloc h).mono hbq.size), (Two.new wq 0 0).below h (Two.new wq 0 0).lt⟩

set_option maxHeartbeats 2000000 in
theorem refAgree_any (a : Option Addr) (l : List Ck) (cap : Nat) (d : Int) (w : World) (hl : CksAt w w.heap.size a l) (h16 : l.length ≤ 9223372036854775807) :
    Calls Try.prog 21 #[.slice a l.length cap, .int .i64 d] w (AgreePost l d w) := by
  by_cases hE : chk l d = 0
  · obtain ⟨hlen, hd0, hd1, hall⟩ := chk_all l d hE
    go_enter Try.func21, Try.ntmps21
    go_wp2_with fail
    refine (valids_any a l cap d w hl h16).mono ?_
    rintro e w1 ⟨rfl, hb1⟩
    rw [hE]
    have HE := Lib.hid hE
    clear hE
    go_wp2_with fail
    go_loopw [8] (fun i wr => ∃ k : Nat, k ≤ l.length ∧ i = .int .i64 k ∧ NoneAhead l d k 0 ∧ Below w.heap.size w wr) (fun i _ => l.length - (intOf i).toNat)
    case atStart => exact ⟨0, Nat.zero_le _, rfl, NoneAhead.start l d, hb1⟩
    case round =>
      obtain ⟨k, hk, rfl, hN, hb⟩ := hrel
      by_cases hlt : k < l.length
      · obtain ⟨ad, rfl, hlt2, hc⟩ := hl (by omega)
        have hcQ := hc k hlt
        have z := ckE_zero _ (hall l[k] (List.getElem_mem hlt))
        generalize hT : l[k] = t at *
        have HT := Lib.hid hT
        clear hT
        obtain ⟨li, cl, lo, hi⟩ := t
        simp only at z
        go_wp2_with fail
        obtain ⟨wo, rfl⟩ : ∃ wo : World, wo = wr := ⟨_, rfl⟩
        go_loopw [9] (fun j wr => ∃ i : Nat, i ≤ k ∧ j = .int .i64 i ∧ NoneAhead l d k i ∧ Below w.heap.size w wr) (fun j _ => k - (intOf j).toNat)
        case atStart => exact ⟨0, Nat.zero_le _, rfl, hN, hb⟩
        case round =>
          obtain ⟨i, hik, rfl, hN2, hb2⟩ := hrel
          by_cases hlt3 : i < k
          · have hilt : i < l.length := by omega
            have hcP := hc i hilt
            have zc := ckE_zero _ (hall l[i] (List.getElem_mem hilt))
            generalize hC : l[i] = c at *
            have HC := Lib.hid hC
            clear hC
            obtain ⟨li', cl', lo', hi'⟩ := c
            simp only at zc
            have hpb : (ad.add (i * 4)).block < w.heap.size := by rw [add_block]; exact hlt2
            have hqb : (ad.add (k * 4)).block < w.heap.size := by rw [add_block]; exact hlt2
            obtain ⟨c0, c1, c2, c3⟩ := hcP.mono hb2 hpb
            obtain ⟨q0, q1, q2, q3⟩ := hcQ.mono hb2 hqb
            simp only at c0 c1 c2 c3 q0 q1 q2 q3
            by_cases he : li' = li
            · subst he
              go_wp2_with fail
              go_quiet (fail)
              go_wp2_with fail
              have hbq : Below w.heap.size w (wr.drewN nq) := below_drewN hb2 nq
              have hw0 := wrg_bd (cl - cl') d (by omega) (by omega) hd0 hd1
              have HCI : Hid (Clash d ⟨li', cl', lo', hi'⟩ ⟨li', cl, lo, hi⟩ ↔ (hi' + (cl - cl') + wrg (cl - cl') d < lo ∨ hi < lo' + (cl - cl') - wrg (cl - cl') d)) := Lib.hid (clash_iff (d := d) (c := ⟨li', cl', lo', hi'⟩) (t := ⟨li', cl, lo, hi⟩) rfl zc.2.2.2.2 z.2.2.2.2 hw0.1)
              clear c0 c1 c2 c3 q0 q1 q2 q3
              generalize wr.drewN nq = wq at *
              go_region_held3 (fun w' => w'.cell? (ad.add (i * 4)) = some (.int .i64 li') ∧ w'.cell? ⟨(ad.add (i * 4)).block, (ad.add (i * 4)).off + 1, none⟩ = some (.int .i64 cl') ∧ w'.cell? ⟨(ad.add (i * 4)).block, (ad.add (i * 4)).off + 2, none⟩ = some (.int .i64 lo') ∧ w'.cell? ⟨(ad.add (i * 4)).block, (ad.add (i * 4)).off + 3, none⟩ = some (.int .i64 hi') ∧ w'.cell? ⟨(ad.add (k * 4)).block, (ad.add (k * 4)).off + 1, none⟩ = some (.int .i64 cl)) (first | exact S3 hcP hcQ hpb hqb hbq | exact S3 hcP hcQ hpb hqb hbq.drew | exact S3 hcP hcQ hpb hqb hkB | exact S3 hcP hcQ hpb hqb (hkB.alloc hkB.size _) | exact S3 hcP hcQ hpb hqb (hbq.alloc hbq.size _).drew | exact S3 hcP hcQ hpb hqb ((hkB.setCell (p := ⟨_, 0, none⟩) hbq.size _).setCell (p := ⟨_, 1, none⟩) hbq.size _) | fail)
                (first | (go_at_call 57; refine (by_any _ _ _ _ _ _ _ (by omega) (by omega) (by omega) (by omega) (by omega) (by omega) (by omega) (by omega) (by omega) (by omega)).mono ?_; rintro e wa ⟨rfl, hba⟩; first | (have hkB := keepV1 hbq hba) | (have hk2 := keepV2 hbq hba; obtain ⟨hkB, hz⟩ := hk2; have g0 := hz.c0; have g1 := hz.c1; have g2 := hz.free 0; have g3 := hz.free 1) | fail))
              · have hfin : Below w.heap.size w (wa.alloc (.cells #[.int .i64 (lo' + (cl - cl') - wrg (cl - cl') d), .int .i64 (hi' + (cl - cl') + wrg (cl - cl') d)] 53)) := hkB.alloc hkB.size _
                have hTw : Two (wa.alloc (.cells #[.int .i64 (lo' + (cl - cl') - wrg (cl - cl') d), .int .i64 (hi' + (cl - cl') + wrg (cl - cl') d)] 53)) wa.heap.size (lo' + (cl - cl') - wrg (cl - cl') d) (hi' + (cl - cl') + wrg (cl - cl') d) := Two.new ..
                clear hba
                generalize (wa.alloc (.cells #[.int .i64 (lo' + (cl - cl') - wrg (cl - cl') d), .int .i64 (hi' + (cl - cl') + wrg (cl - cl') d)] 53)) = WW at *
                have t0 := hTw.c0
                have t1 := hTw.c1
                obtain ⟨_, q1, q2, q3⟩ := hcQ.mono hfin hqb
                simp only at q1 q2 q3
                clear hTw
                by_cases hA : (hi' + (cl - cl') + wrg (cl - cl') d) < lo
                · have hd : decide ((hi' + (cl - cl') + wrg (cl - cl') d) < lo) = true := by simpa using hA
                  go_wp2
                  go_quiet (fail)
                  go_wp2
                  go_ret3
                  refine ⟨⟨i, k, 0, rfl, .inr (.inr ⟨HE.out, rfl, i, k, hilt, hlt, hlt3, rfl, rfl, ?_, hN2⟩)⟩, below_drewN hfin _⟩
                  rw [HC.out, HT.out]
                  exact HCI.out.2 (.inl hA)
                · have hd : decide ((hi' + (cl - cl') + wrg (cl - cl') d) < lo) = false := by simpa using hA
                  by_cases hB : hi < (lo' + (cl - cl') - wrg (cl - cl') d)
                  · have hd2 : decide (hi < (lo' + (cl - cl') - wrg (cl - cl') d)) = true := by simpa using hB
                    go_wp2
                    go_quiet (fail)
                    go_wp2
                    go_ret3
                    refine ⟨⟨i, k, 0, rfl, .inr (.inr ⟨HE.out, rfl, i, k, hilt, hlt, hlt3, rfl, rfl, ?_, hN2⟩)⟩, below_drewN hfin _⟩
                    rw [HC.out, HT.out]
                    exact HCI.out.2 (.inr hB)
                  · have hd2 : decide (hi < (lo' + (cl - cl') - wrg (cl - cl') d)) = false := by simpa using hB
                    go_wp2
                    go_quiet (fail)
                    go_wp2
                    go_roundw
                    case rel =>
                      refine ⟨i + 1, by omega, by go_num, hN2.next hilt hlt ?_, below_drewN hfin _⟩
                      rw [HC.out, HT.out]
                      intro hcl
                      rcases HCI.out.1 hcl with h | h
                      · omega
                      · omega
                    case measure => simp [intOf]; omega
              · have hfin : Below w.heap.size w ((wa.setCell ⟨wq.heap.size, 0, none⟩ (.int .i64 (lo' + (cl - cl') - wrg (cl - cl') d))).setCell ⟨wq.heap.size, 1, none⟩ (.int .i64 (hi' + (cl - cl') + wrg (cl - cl') d))) := (hkB.setCell (p := ⟨wq.heap.size, 0, none⟩) hbq.size _).setCell (p := ⟨wq.heap.size, 1, none⟩) hbq.size _
                have hTw : Two ((wa.setCell ⟨wq.heap.size, 0, none⟩ (.int .i64 (lo' + (cl - cl') - wrg (cl - cl') d))).setCell ⟨wq.heap.size, 1, none⟩ (.int .i64 (hi' + (cl - cl') + wrg (cl - cl') d))) wq.heap.size (lo' + (cl - cl') - wrg (cl - cl') d) (hi' + (cl - cl') + wrg (cl - cl') d) := hz.set _ _
                clear hba
                generalize ((wa.setCell ⟨wq.heap.size, 0, none⟩ (.int .i64 (lo' + (cl - cl') - wrg (cl - cl') d))).setCell ⟨wq.heap.size, 1, none⟩ (.int .i64 (hi' + (cl - cl') + wrg (cl - cl') d))) = WW at *
                have t0 := hTw.c0
                have t1 := hTw.c1
                obtain ⟨_, q1, q2, q3⟩ := hcQ.mono hfin hqb
                simp only at q1 q2 q3
                clear hTw
                by_cases hA : (hi' + (cl - cl') + wrg (cl - cl') d) < lo
                · have hd : decide ((hi' + (cl - cl') + wrg (cl - cl') d) < lo) = true := by simpa using hA
                  go_wp2
                  go_quiet (fail)
                  go_wp2
                  go_ret3
                  refine ⟨⟨i, k, 0, rfl, .inr (.inr ⟨HE.out, rfl, i, k, hilt, hlt, hlt3, rfl, rfl, ?_, hN2⟩)⟩, below_drewN hfin _⟩
                  rw [HC.out, HT.out]
                  exact HCI.out.2 (.inl hA)
                · have hd : decide ((hi' + (cl - cl') + wrg (cl - cl') d) < lo) = false := by simpa using hA
                  by_cases hB : hi < (lo' + (cl - cl') - wrg (cl - cl') d)
                  · have hd2 : decide (hi < (lo' + (cl - cl') - wrg (cl - cl') d)) = true := by simpa using hB
                    go_wp2
                    go_quiet (fail)
                    go_wp2
                    go_ret3
                    refine ⟨⟨i, k, 0, rfl, .inr (.inr ⟨HE.out, rfl, i, k, hilt, hlt, hlt3, rfl, rfl, ?_, hN2⟩)⟩, below_drewN hfin _⟩
                    rw [HC.out, HT.out]
                    exact HCI.out.2 (.inr hB)
                  · have hd2 : decide (hi < (lo' + (cl - cl') - wrg (cl - cl') d)) = false := by simpa using hB
                    go_wp2
                    go_quiet (fail)
                    go_wp2
                    go_roundw
                    case rel =>
                      refine ⟨i + 1, by omega, by go_num, hN2.next hilt hlt ?_, below_drewN hfin _⟩
                      rw [HC.out, HT.out]
                      intro hcl
                      rcases HCI.out.1 hcl with h | h
                      · omega
                      · omega
                    case measure => simp [intOf]; omega
            · have hne : (li' != li) = true := by simpa using he
              go_wp2_with fail
              go_quiet (fail)
              go_wp2
              go_roundw
              case rel => exact ⟨i + 1, by omega, by go_num, hN2.next hilt hlt (by rw [HC.out, HT.out]; exact fun h => he h.1), below_drewN hb2 _⟩
              case measure => simp [intOf]; omega
          · have hkk : i = k := by omega
            subst hkk
            go_wp2
            go_roundw
            case rel => exact ⟨i + 1, by omega, by go_num, hN2.row, hb2⟩
            case measure => simp [intOf]; omega
      · have hkk : k = l.length := by omega
        subst hkk
        go_wp2
        go_ret3
        exact ⟨⟨-1, -1, 0, rfl, .inr (.inl ⟨HE.out, rfl, rfl, rfl, hN⟩)⟩, hb⟩
  · go_enter Try.func21, Try.ntmps21
    go_wp2_with fail
    refine (valids_any a l cap d w hl h16).mono ?_
    rintro e w1 ⟨rfl, hb1⟩
    have HE := Lib.hid hE
    have hq : (chk l d == 0) = false := by simpa using hE
    have hq2 : (chk l d != 0) = true := by simpa using hE
    clear hE
    generalize hqq : chk l d = q at *
    have HQ := Lib.hid hqq
    clear hqq
    go_wp2
    go_ret3
    exact ⟨⟨0, 0, q, rfl, .inl ⟨by rw [HQ.out]; exact HE.out, rfl, rfl, HQ.out.symm⟩⟩, hb1⟩
end Go.Proofs.Ytkdmdoipjhcmgaa
