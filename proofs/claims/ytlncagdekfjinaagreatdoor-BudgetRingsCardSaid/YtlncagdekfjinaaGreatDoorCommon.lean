/- (limbs).common. -/
import Derived.Test.YtlncagdekfjinaaGreatDoorQuad
import Derived.Test.YtlncagdekfjinaaGreatDoorRest
import Derived.Test.YtlncagdekfjinaaGreatDoorEuclid
import Derived.Deep.LoopGhost
import Derived.Deep.CutBlock
import Derived.Deep.RegionHeld3
namespace Go.Proofs.YtlncagdekfjinaaGreatDoor
open Go.RowKit Go.Sort Dg
theorem odd_right {x : Nat} (hx : x ≠ 0) : x = 2 ^ tz x * (x / 2 ^ tz x) ∧ (x / 2 ^ tz x) % 2 = 1 ∧ x / 2 ^ tz x ≠ 0 ∧ x / 2 ^ tz x ≤ x := by
  obtain ⟨m, hm⟩ := tz_spec hx
  have e : x / 2 ^ tz x = 2 * m + 1 := by
    have h : 2 ^ tz x * (2 * m + 1) / 2 ^ tz x = 2 * m + 1 := Nat.mul_div_cancel_left _ (Nat.two_pow_pos _)
    rw [← hm] at h; exact h
  rw [e]
  exact ⟨hm, by omega, by omega, by rw [← e]; exact Nat.div_le_self _ _⟩
theorem gcd_right {x y : Nat} (hx : x ≠ 0) (hy : y ≠ 0) : Nat.gcd x y = Nat.gcd (x / 2 ^ tz x) (y / 2 ^ tz y) * 2 ^ min (tz x) (tz y) := by
  obtain ⟨e1, o1, _⟩ := odd_right hx
  obtain ⟨e2, o2, _⟩ := odd_right hy
  conv => lhs; rw [e1, e2]
  exact gcd_twos o1 o2
theorem one_lies (W : World) : DigsAt (W.alloc (.cells #[.int .u64 1] 167)) (some ⟨W.heap.size, 0, none⟩) 1 1 1 :=
  ⟨by simp [B], Nat.le_refl _, fun _ => ⟨W.heap.size, 0, rfl, by simp, fun i hi => by
    obtain rfl : i = 0 := by omega
    rw [dig_one, Nat.mod_eq_of_lt (by unfold B; omega)]
    simp [go_sem]⟩⟩
theorem nl_one : nl 1 = 1 := by decide
theorem eq_f {n : Nat} (h : 0 < n) : (((n : Nat) : Int) == 0) = false := by rw [beq_eq_false_iff_ne]; omega
theorem common_zero_x (a b : Option Addr) (ca cb y : Nat) (w : World) (hy : DigsAt w b (nl y) cb y) (hny : nl y ≤ 1073741800) :
    Calls Tryz.prog 129 #[.slice a 0 ca, .slice b (nl y) cb] w (Gives w y) := by
  go_enter Tryz.func129, Tryz.ntmps129
  go_wp2_with fail
  refine (clone_any b (nl y) cb y w hy (by omega)).mono ?_
  rintro e w1 ⟨a1, c1, rfl, hd, hb, _⟩
  go_wp2
  go_ret
  exact ⟨_, _, rfl, hd, hb⟩
theorem common_zero_y (a b : Option Addr) (ca cb x : Nat) (w : World) (hx : DigsAt w a (nl x) ca x) (hnx : nl x ≤ 1073741800) (tx : (((nl x : Nat) : Int) == 0) = false) :
    Calls Tryz.prog 129 #[.slice a (nl x) ca, .slice b 0 cb] w (Gives w x) := by
  go_enter Tryz.func129, Tryz.ntmps129
  go_wp2_with fail
  refine (clone_any a (nl x) ca x w hx (by omega)).mono ?_
  rintro e w1 ⟨a1, c1, rfl, hd, hb, _⟩
  go_wp2
  go_ret
  exact ⟨_, _, rfl, hd, hb⟩
theorem common_one_x (a b : Option Addr) (ca cb x y : Nat) (w : World) (hx : DigsAt w a (nl x) ca x) (tx : (((nl x : Nat) : Int) == 0) = false) (ty : (((nl y : Nat) : Int) == 0) = false) (d1 : decide (x = 1) = true) :
    Calls Tryz.prog 129 #[.slice a (nl x) ca, .slice b (nl y) cb] w (Gives w 1) := by
  have H1 := Lib.hid (isOne_any a ca x w hx)
  clear hx
  rw [d1] at H1
  go_enter Tryz.func129, Tryz.ntmps129
  go_wp2_with fail
  refine H1.out.mono ?_
  rintro e w' ⟨rfl, rfl⟩
  go_wp2_with fail
  go_ret
  exact ⟨_, _, by rw [nl_one]; rfl, by rw [nl_one]; exact one_lies w, (Below.refl _ _).alloc (Nat.le_refl _) _⟩
theorem common_one_y (a b : Option Addr) (ca cb x y : Nat) (w : World) (hx : DigsAt w a (nl x) ca x) (hy : DigsAt w b (nl y) cb y) (tx : (((nl x : Nat) : Int) == 0) = false) (ty : (((nl y : Nat) : Int) == 0) = false) (d1 : decide (x = 1) = false) (d2 : decide (y = 1) = true) :
    Calls Tryz.prog 129 #[.slice a (nl x) ca, .slice b (nl y) cb] w (Gives w 1) := by
  have H1 := Lib.hid (isOne_any a ca x w hx)
  have H2 := Lib.hid (isOne_any b cb y w hy)
  clear hx hy
  rw [d1] at H1
  rw [d2] at H2
  go_enter Tryz.func129, Tryz.ntmps129
  go_wp2_with fail
  refine H1.out.mono ?_
  rintro e w' ⟨rfl, rfl⟩
  go_wp2_with fail
  refine H2.out.mono ?_
  rintro e w' ⟨rfl, rfl⟩
  go_wp2_with fail
  go_ret
  exact ⟨_, _, by rw [nl_one]; rfl, by rw [nl_one]; exact one_lies w, (Below.refl _ _).alloc (Nat.le_refl _) _⟩
set_option maxRecDepth 100000 in
set_option maxHeartbeats 4000000 in
theorem common_main (a b : Option Addr) (ca cb x y : Nat) (w : World) (hx : DigsAt w a (nl x) ca x) (hy : DigsAt w b (nl y) cb y) (hnx : nl x ≤ 1073741800) (hny : nl y ≤ 1073741800) (hE : Env w) (hx0 : x ≠ 0) (hy0 : y ≠ 0) (hx1 : x ≠ 1) (hy1 : y ≠ 1) (tx : (((nl x : Nat) : Int) == 0) = false) (ty : (((nl y : Nat) : Int) == 0) = false) :
    Calls Tryz.prog 129 #[.slice a (nl x) ca, .slice b (nl y) cb] w (Gives w (Nat.gcd x y)) := by
  have d1 : decide (x = 1) = false := by simpa using hx1
  have d2 : decide (y = 1) = false := by simpa using hy1
  have hox := Lib.hid (odd_right hx0)
  have hoy := Lib.hid (odd_right hy0)
  have hG := Lib.hid (gcd_right hx0 hy0)
  have hbx : tz x ≤ 68719475200 := by have := bl_le_nl x; have := tz_le hx0 (lt_bl x); omega
  have hby : tz y ≤ 68719475200 := by have := bl_le_nl y; have := tz_le hy0 (lt_bl y); omega
  have hZx := Lib.hid (zeros_any a ca x w hx (by omega) hE)
  have hZy := Lib.hid (zeros_any b cb y w hy (by omega) hE)
  have hZy2 := Lib.hid (fun M (hb : Below w.heap.size w M) => zeros_any b cb y M (hy.mono hb) (by omega) (hE.mono hb))
  have hRx := Lib.hid (right_room a ca x (tz x) w hx (by omega) (by omega))
  have hRy := Lib.hid (fun M (hb : Below w.heap.size w M) => right_room b cb y (tz y) M (hy.mono hb) (by omega) (by omega))
  have H1 := Lib.hid (isOne_any a ca x w hx)
  have H2 := Lib.hid (isOne_any b cb y w hy)
  rw [d1] at H1
  rw [d2] at H2
  clear d1 d2 hx hy hx0 hy0 hx1 hy1
  go_enter Tryz.func129, Tryz.ntmps129
  go_wp2_with fail
  refine H1.out.mono ?_
  rintro e w' ⟨rfl, rfl⟩
  go_wp2_with fail
  refine H2.out.mono ?_
  rintro e w' ⟨rfl, rfl⟩
  go_wp2_with fail
  refine hZx.out.mono ?_
  rintro e w' ⟨rfl, rfl⟩
  go_wp2_with fail
  refine hZy.out.mono ?_
  rintro e w' ⟨rfl, rfl⟩
  go_wp2_with fail
  refine hZx.out.mono ?_
  rintro e w' ⟨rfl, rfl⟩
  go_wp2_with fail
  refine hRx.out.mono ?_
  rintro e w1 ⟨a1, c1, rfl, hd1, hb1, hr1⟩
  go_wp2_with fail
  refine (hZy2.out w1 hb1).mono ?_
  rintro e w' ⟨rfl, rfl⟩
  go_wp2_with fail
  refine (hRy.out w1 hb1).mono ?_
  rintro e w2 ⟨a2, c2, rfl, hd2, hb2, hr2⟩
  have hq : Quad w2 w.heap.size a1 a2 none none c1 c2 0 0 (x / 2 ^ tz x) (y / 2 ^ tz y) :=
    ⟨hd1.mono hb2, hd2, hr1.mono hb2, hr2.low hb1.size, Room.nil _ _, Room.nil _ _, Apart2.lt hr1.old hr2.new, Apart2.nil _, Apart2.nil _, Apart2.nil _, Apart2.nil _, Apart2.nil _, Nat.le_trans hb1.size hb2.size⟩
  have HQ := Lib.hid hq
  have HB := Lib.hid (hb1.trans (hb2.mono hb1.size))
  have ht : ((min (tz x) (tz y) : Nat) : Int) ≤ 68719475200 := by omega
  have ht2 : min (tz x) (tz y) ≤ 68719475200 := by omega
  have HP : Hid (x / 2 ^ tz x ≠ 0 ∧ y / 2 ^ tz y ≠ 0) := Lib.hid ⟨hox.out.2.2.1, hoy.out.2.2.1⟩
  have hlx : nl (x / 2 ^ tz x) ≤ 1073741800 := Nat.le_trans (nl_mono (Nat.div_le_self _ _)) hnx
  have hly : nl (y / 2 ^ tz y) ≤ 1073741800 := Nat.le_trans (nl_mono (Nat.div_le_self _ _)) hny
  have HE := Lib.hid (hE.mono HB.out)
  have hE0 := hE
  clear hox hoy hZx hZy hZy2 hRx hRy hq hd1 hd2 hb1 hb2 hr1 hr2 H1 H2 tx ty hbx hby hE hnx hny
  go_upto_region 9 with fail
  rw [show min ((tz x : Nat) : Int) ((tz y : Nat) : Int) = ((min (tz x) (tz y) : Nat) : Int) by omega]
  generalize min (tz x) (tz y) = k2 at *
  generalize x / 2 ^ tz x = X at *
  generalize y / 2 ^ tz y = Y at *
  have HC := Lib.hid (compare_any a1 a2 c1 c2 X Y w2 HQ.out.x HQ.out.y (by omega))
  go_wp2_with fail
  refine HC.out.mono ?_
  rintro e w3 ⟨rfl, q, rfl⟩
  go_upto_if 53 with fail
  go_cut [0, 1] (fun v0 v1 wx => ∃ (a b : Option Addr) (ca cb P Q : Nat), v0 = .slice a (nl P) ca ∧ v1 = .slice b (nl Q) cb ∧ nl P ≤ 1073741800 ∧ Hid (Q ≤ P ∧ P ≠ 0 ∧ Nat.gcd P Q = Nat.gcd X Y) ∧ Hid (Quad wx w.heap.size a b none none ca cb 0 0 P Q) ∧ Hid (Below w.heap.size w wx))
  case first =>
    by_cases hlt : X < Y
    · have hc : decide (cmpN X Y < 0) = true := by rw [cmpN_lt hlt]; rfl
      rw [hc]
      clear hc
      go_wp2_with fail
      go_meet
      refine ⟨_, _, _, _, Y, X, rfl, rfl, hly, Lib.hid ⟨Nat.le_of_lt hlt, HP.out.2, Nat.gcd_comm _ _⟩, Lib.hid ?_, Lib.hid (below_drawn HB.out q)⟩
      have h := HQ.out
      exact ⟨h.y.drawn q, h.x.drawn q, h.ry.drawn q, h.rx.drawn q, Room.nil _ _, Room.nil _ _, h.ab.symm, Apart2.nil _, Apart2.nil _, Apart2.nil _, Apart2.nil _, Apart2.nil _, h.base_⟩
    · have hc : decide (cmpN X Y < 0) = false := by
        rcases Nat.lt_or_ge Y X with h | h
        · rw [cmpN_gt h]; rfl
        · rw [cmpN_eq (by omega)]; rfl
      rw [hc]
      clear hc
      go_wp2_with fail
      go_meet
      refine ⟨_, _, _, _, X, Y, rfl, rfl, hlx, Lib.hid ⟨by omega, HP.out.1, rfl⟩, Lib.hid ?_, Lib.hid (below_drawn HB.out q)⟩
      have h := HQ.out
      exact ⟨h.x.drawn q, h.y.drawn q, h.rx.drawn q, h.ry.drawn q, Room.nil _ _, Room.nil _ _, h.ab, Apart2.nil _, Apart2.nil _, Apart2.nil _, Apart2.nil _, Apart2.nil _, h.base_⟩
  case rest =>
    clear HC HQ HP hlx hly
    have HE0 := Lib.hid (fun M (h : Below w.heap.size w M) => hE0.mono h)
    clear HB HE
    obtain ⟨a, b, ca, cb, P, Q, rfl, rfl, hlP, HPQ, HQ, HB⟩ := hcut
    go_wp2_with fail
    go_loopg [0, 1, 6, 7] Q (fun k v0 v1 v6 v7 wr => ∃ (a b s t : Option Addr) (ca cb ns cs nt ct P : Nat), v0 = .slice a (nl P) ca ∧ v1 = .slice b (nl k) cb ∧ v6 = .slice s ns cs ∧ v7 = .slice t nt ct ∧ ns ≤ cs ∧ nt ≤ ct ∧ nl P ≤ 1073741800 ∧ Hid (k ≤ P ∧ P ≠ 0 ∧ Nat.gcd P k = Nat.gcd X Y) ∧ Hid (Quad wr w.heap.size a b s t ca cb cs ct P k) ∧ Hid (Below w.heap.size w wr))
    case atStart => exact ⟨a, b, none, none, ca, cb, 0, 0, 0, 0, P, rfl, rfl, rfl, rfl, Nat.le_refl _, Nat.le_refl _, hlP, HPQ, HQ, HB⟩
    case round =>
      clear HPQ HQ HB hlP
      obtain ⟨a, b, s, t, ca, cb, ns, cs, nt, ct, P, rfl, rfl, rfl, rfl, hns, hnt, hlP, HPQ, HQ, HB⟩ := hrel
      by_cases hl : 1 < nl gk
      · have hkP := nl_mono HPQ.out.1
        have hbp : 64 < bl P := by
          have h1 := bl_top HPQ.out.2.1
          have h2 := dig_top HPQ.out.2.1
          have h3 := bl_pos h2
          omega
        have hbl := bl_le_nl P
        obtain ⟨p, hp, hp2, hp3⟩ : ∃ p : Nat, (bl P : Int) - 64 = p ∧ bl P = p + 64 ∧ p ≤ 68719475200 := ⟨bl P - 64, by omega, by omega, by omega⟩
        have HP := Lib.hid hp
        have HP2 := Lib.hid hp2
        have HL := Lib.hid (length_any a ca P wr HQ.out.x (by omega))
        have HW1 := Lib.hid (fun M (h : Below wr.heap.size wr M) => window_int a ca P ((bl P : Int) - 64) p M hp (HQ.out.x.mono h) (by omega) (by omega))
        have HW2 := Lib.hid (fun M (h : Below wr.heap.size wr M) => window_int b cb gk ((bl P : Int) - 64) p M hp (HQ.out.y.mono h) (by omega) (by omega))
        have hbu : bl P ≤ 68719475264 := by omega
        clear hp hp2 hbl
        go_wp2_with (first | (go_at_call 180; refine HL.out.mono ?_; rintro e w' ⟨rfl, rfl⟩))
        refine (HW1.out _ (Below.refl _ _)).mono ?_
        rintro e w4 ⟨rfl, q1, rfl⟩
        go_wp2_with fail
        refine (HW2.out _ (below_drawn (Below.refl _ _) q1)).mono ?_
        rintro e w4 ⟨rfl, q2, rfl⟩
        have hwP : win P p = P / 2 ^ p := by
          unfold win
          refine Nat.mod_eq_of_lt ?_
          rw [Nat.div_lt_iff_lt_mul (Nat.two_pow_pos p), show B = 2 ^ 64 from rfl, ← Nat.pow_add, Nat.add_comm, ← HP2.out]
          exact lt_bl P
        have hwK : win gk p = gk / 2 ^ p := by
          unfold win
          refine Nat.mod_eq_of_lt (Nat.lt_of_le_of_lt (Nat.div_le_div_right HPQ.out.1) ?_)
          rw [← hwP]; exact win_lt _ _
        have HS := Lib.hid (fun M => simulate_any P gk (2 ^ p) (P % 2 ^ p) (gk % 2 ^ p) (win P p) (win gk p) (by rw [hwP]; exact (Nat.div_add_mod' P (2 ^ p)).symm) (by rw [hwK]; exact (Nat.div_add_mod' gk (2 ^ p)).symm) (Nat.mod_lt _ (Nat.two_pow_pos p)) (Nat.mod_lt _ (Nat.two_pow_pos p))
          (by rw [hwP, hwK]; exact Nat.div_le_div_right HPQ.out.1) (win_lt _ _) HPQ.out.1 M)
        clear hwP hwK
        go_wp2_with fail
        refine (HS.out _).mono ?_
        rintro e w5 ⟨f1, f2, l1, l2, rfl, hf1, hf2, hl1, hl2, HLM, hb5⟩
        have HLH := Lib.hid HLM
        clear HLM
        have hQ5 := HQ.out.mono ((below_drawn (Below.refl _ wr) (q1 + q2)).trans hb5)
        have hB5 := HB.out.trans (((below_drawn (Below.refl _ wr) (q1 + q2)).trans hb5).mono HB.out.size)
        have HQ5 := Lib.hid hQ5
        have HB5 := Lib.hid hB5
        clear hQ5 hB5 hb5 HQ HB HS HW1 HW2 HL
        by_cases hf0 : f2 = 0
        · subst hf0
          have hb6 : Below w5.heap.size w5 ((w5.alloc (Obj.cells #[Value.int IntKind.u64 (f1 : Int), Value.int IntKind.u64 0] 248)).alloc (Obj.cells #[Value.int IntKind.u64 (l1 : Int), Value.int IntKind.u64 (l2 : Int)] 248)) :=
            ((Below.refl _ _).alloc (Nat.le_refl _) _).alloc (by simp) _
          have HQ6 := Lib.hid (HQ5.out.mono hb6)
          have HB6 := Lib.hid (HB5.out.trans (hb6.mono (Nat.le_trans HQ5.out.base_ (Nat.le_refl _))))
          have HD := Lib.hid (divide_any a b ca cb P gk _ HQ6.out.x HQ6.out.y (by omega) (by omega) (by rintro rfl; rw [nl_zero] at hl; omega) (HE0.out _ HB6.out))
          clear hb6 HQ5 HB5 HLH HE0
          go_wp2_with fail
          refine HD.out.mono ?_
          rintro e w7 ⟨a3, c3, a4, c4, rfl, hd3, hd4, hb7, hr7⟩
          have HQ7 := Lib.hid (HQ6.out.divided hb7 hd4 hr7)
          have HB7 := Lib.hid (HB6.out.trans (hb7.mono HQ6.out.base_))
          have hlt : P % gk < gk := Nat.mod_lt _ (Nat.pos_of_ne_zero fun e => by rw [e, nl_zero] at hl; omega)
          clear hd3 hd4 hb7 hr7 HQ6 HB6 HD
          go_wp2_with fail
          go_roundg (P % gk)
          case measure => exact hlt
          case rel => exact ⟨b, a4, s, t, cb, c4, ns, cs, nt, ct, gk, rfl, rfl, rfl, rfl, hns, hnt, by omega, Lib.hid ⟨Nat.le_of_lt hlt, by omega, by rw [gcd_step]; exact HPQ.out.2.2⟩, HQ7, HB7⟩
        · have tf : (((f2 : Nat) : Int) == 0) = false := by rw [beq_eq_false_iff_ne]; omega
          have HLM : Hid (Lehmer P gk f1 f2 l1 l2) := Lib.hid (HLH.out.resolve_left hf0)
          have HF0 := Lib.hid hf0
          clear HLH hf0
          go_upto_region 18 with fail
          obtain ⟨W, hW⟩ : ∃ W, ((w5.alloc (Obj.cells #[Value.int IntKind.u64 (f1 : Int), Value.int IntKind.u64 (f2 : Int)] 248)).alloc (Obj.cells #[Value.int IntKind.u64 (l1 : Int), Value.int IntKind.u64 (l2 : Int)] 248)) = W := ⟨_, rfl⟩
          have hb6 : Below w5.heap.size w5 W := by rw [← hW]; exact ((Below.refl _ _).alloc (Nat.le_refl _) _).alloc (by simp) _
          have hz6 : w5.heap.size + 2 ≤ W.heap.size := by rw [← hW]; simp
          have h4 : Four w5.heap.size f1 f2 l1 l2 W := by rw [← hW]; refine ⟨?_, ?_, ?_, ?_⟩ <;> simp [go_sem]
          have HQ6 := Lib.hid (HQ5.out.mono hb6)
          have HB6 := Lib.hid (HB5.out.trans (hb6.mono (Nat.le_trans HQ5.out.base_ (Nat.le_refl _))))
          have HN := Lib.hid (fun g M (hM : W.heap.size ≤ M.heap.size) (hl : Lands M s g) => hl.ne HQ5.out.rs.old (Nat.le_trans hz6 hM))
          have HT := Lib.hid (fun g M (hM : W.heap.size ≤ M.heap.size) (hl : Lands M t g) => hl.ne HQ5.out.rt.old (Nat.le_trans hz6 hM))
          rw [hW]
          clear hW hb6 HQ5 HB5
          generalize w5.heap.size = h at *
          obtain ⟨m1, m2, m3, m4⟩ := h4
          have h4d : Four h f1 f2 l1 l2 W.drew := ⟨m1, m2, m3, m4⟩
          have hQd : Quad W.drew w.heap.size a b s t ca cb cs ct P gk := HQ6.out.mono (below_drawn (Below.refl _ _) 1)
          have H4d := Lib.hid h4d
          have HQd := Lib.hid hQd
          have HD1 := Lib.hid (dist1 hQd ns hns (by omega) hkP f1 f2 hf1 hf2)
          have HD2 := Lib.hid (fun w' g (hb : But g W.drew w') (hl : Lands W.drew s g) => dist2 hQd hb hl nt hnt (by omega) hkP l1 l2 hl1 hl2)
          clear h4d hQd
          go_region_held3 (fun w' => w'.cell? ⟨h, 0, none⟩ = some (Go.Proofs.YtlncagdekfjinaaGreatDoor.u64 f1) ∧ w'.cell? ⟨h, 1, none⟩ = some (Go.Proofs.YtlncagdekfjinaaGreatDoor.u64 f2) ∧ w'.cell? ⟨h + 1, 0, none⟩ = some (Go.Proofs.YtlncagdekfjinaaGreatDoor.u64 l1) ∧ w'.cell? ⟨h + 1, 1, none⟩ = some (Go.Proofs.YtlncagdekfjinaaGreatDoor.u64 l2)) (first | exact ⟨m1, m2, m3, m4⟩ | fail)
            (first | (go_at_call 184; (with_reducible refine HD1.out.mono ?_); rintro e w8 ⟨g, cg, rfl, hd8, hr8, hl8, hb8⟩; have hf8 := H4d.out.but hb8 (HN.out g _ (Nat.le_refl _) hl8); obtain ⟨m1, m2, m3, m4⟩ := hf8) | (go_at_call 184; (with_reducible refine (HD2.out _ _ hb8 hl8).mono ?_); rintro e w9 ⟨g2, cg2, rfl, hd9, hr9, hl9, hb9⟩; have hf9 := Four.but ⟨m1, m2, m3, m4⟩ hb9 (HT.out g2 _ hb8.size hl9); obtain ⟨m1, m2, m3, m4⟩ := hf9))
          have HQ9 := Lib.hid (HQd.out.both hb8 hl8 hd8 hr8 hb9 hl9 hd9 hr9)
          have HB9 := Lib.hid (hb9.below (hb8.below (below_drawn HB6.out 1) hr8.ge HQ6.out.base_) hr9.ge (Nat.le_trans HQ6.out.base_ hb8.size))
          have hlt : far P gk l1 l2 < gk := HLM.out.prog.resolve_left HF0.out
          have hpa : nl P ≤ ca := HQ6.out.x.fit
          have hpb : nl gk ≤ cb := HQ6.out.y.fit
          have hle : nl (far P gk f1 f2) ≤ 1073741800 := Nat.le_trans (nl_mono HLM.out.lex) hlP
          have HG9 : Hid (far P gk l1 l2 ≤ far P gk f1 f2 ∧ far P gk f1 f2 ≠ 0 ∧ Nat.gcd (far P gk f1 f2) (far P gk l1 l2) = Nat.gcd X Y) :=
            Lib.hid ⟨Nat.le_of_lt HLM.out.lt, by have := HLM.out.lt; omega, by rw [far_gcd HLM.out.det]; exact HPQ.out.2.2⟩
          clear hd8 hr8 hl8 hb8 hd9 hr9 hl9 hb9 HQ6 HB6 HQd HD1 HD2 HN HT H4d m1 m2 m3 m4
          go_wp2_with fail
          go_roundg (far P gk l1 l2)
          case measure => exact hlt
          case rel => exact ⟨_, _, a, b, _, _, nl P, ca, nl gk, cb, _, rfl, rfl, rfl, rfl, hpa, hpb, hle, HG9, HQ9, HB9⟩
      · have HE1 := Lib.hid (HE0.out _ HB.out)
        by_cases h0 : gk = 0
        · subst h0
          have HL := Lib.hid (left_any a ca P k2 wr HQ.out.x (by omega) (by omega))
          have HG : Hid (P = Nat.gcd X Y) := Lib.hid (by have := HPQ.out.2.2; rwa [Nat.gcd_zero_right] at this)
          rw [nl_zero]
          go_wp2_with fail
          refine HL.out.mono ?_
          rintro e w4 ⟨a4, c4, rfl, hd4, hb4⟩
          rw [HG.out, ← hG.out] at hd4 ⊢
          go_wp2
          go_ret
          exact ⟨_, _, rfl, hd4, HB.out.trans (hb4.mono HB.out.size)⟩
        · have hn1 : nl gk = 1 := by have := nl_pos h0; omega
          obtain ⟨b3, o3, rfl, hb3, hc3⟩ := HQ.out.y.cells (by omega)
          have hyB : gk < B := by have := lt_nl gk; rw [hn1, Nat.pow_one] at this; exact this
          have g1 := hc3 0 (by omega)
          rw [dig_one, Nat.mod_eq_of_lt hyB, Nat.add_zero] at g1
          have HX := Lib.hid HQ.out.x
          have hb3' : b3 < wr.heap.size := hb3
          rw [hn1]
          clear hc3 hl HQ HE0 HE1 hn1
          have HDW := Lib.hid (divideWord_any a ca P gk wr HX.out (by omega) (by omega) hyB)
          go_wp2_with fail
          refine HDW.out.mono ?_
          rintro e w4 ⟨a4, c4, rfl, hd4, hb4⟩
          have g2 : w4.cell? ⟨b3, o3, none⟩ = some (Go.Proofs.YtlncagdekfjinaaGreatDoor.u64 gk) := (hb4.cell (by exact hb3')).trans g1
          have hr : P % gk < B := Nat.lt_trans (Nat.mod_lt _ (by omega)) hyB
          go_wp2_with fail
          refine (commonWord_any gk (P % gk) hr w4).mono ?_
          rintro e w5 ⟨rfl, q5, rfl⟩
          have hgB : Nat.gcd gk (P % gk) < B := Nat.lt_of_le_of_lt (Nat.gcd_le_left _ (by omega)) hyB
          go_wp2_with fail
          refine (word_any _ hgB _).mono ?_
          rintro e w6 ⟨a6, c6, rfl, hd6, hb6⟩
          have hn6 : nl (Nat.gcd gk (P % gk)) ≤ 1 := nl_le (by simpa using hgB)
          have HL := Lib.hid (left_any a6 c6 _ k2 w6 hd6 (by omega) (by omega))
          have HG : Hid (Nat.gcd gk (P % gk) = Nat.gcd X Y) := Lib.hid (by rw [gcd_step]; exact HPQ.out.2.2)
          go_wp2_with fail
          refine HL.out.mono ?_
          rintro e w7 ⟨a7, c7, rfl, hd7, hb7⟩
          rw [HG.out, ← hG.out] at hd7 ⊢
          go_wp2
          go_ret
          refine ⟨_, _, rfl, hd7, ?_⟩
          have k1 := (below_drawn hb4 q5).trans (hb6.mono hb4.size)
          exact HB.out.trans ((k1.trans (hb7.mono k1.size)).mono HB.out.size)
theorem common_any (a b : Option Addr) (ca cb x y : Nat) (w : World) (hx : DigsAt w a (nl x) ca x) (hy : DigsAt w b (nl y) cb y) (hnx : nl x ≤ 1073741800) (hny : nl y ≤ 1073741800) (hE : Env w) :
    Calls Tryz.prog 129 #[.slice a (nl x) ca, .slice b (nl y) cb] w (Gives w (Nat.gcd x y)) := by
  by_cases hx0 : x = 0
  · subst hx0
    rw [nl_zero, Nat.gcd_zero_left]
    exact common_zero_x a b ca cb y w hy hny
  have tx := eq_f (nl_pos hx0)
  by_cases hy0 : y = 0
  · subst hy0
    rw [nl_zero, Nat.gcd_zero_right]
    exact common_zero_y a b ca cb x w hx hnx tx
  have ty := eq_f (nl_pos hy0)
  by_cases hx1 : x = 1
  · rw [show Nat.gcd x y = 1 by rw [hx1]; exact Nat.gcd_one_left y]
    exact common_one_x a b ca cb x y w hx tx ty (by simpa using hx1)
  by_cases hy1 : y = 1
  · rw [show Nat.gcd x y = 1 by rw [hy1]; exact Nat.gcd_one_right x]
    exact common_one_y a b ca cb x y w hx hy tx ty (by simpa using hx1) (by simpa using hy1)
  exact common_main a b ca cb x y w hx hy hnx hny hE hx0 hy0 hx1 hy1 tx ty
end Go.Proofs.YtlncagdekfjinaaGreatDoor
