/- Clocks: the reference's Time. -/
import Derived.Test.YtkdmdoipjhcmgaaRclk
namespace Go.Proofs.Ytkdmdoipjhcmgaa
open Go.RowKit

theorem tms_none (life clock drift : Int) (l : List Ck) (h : has life l = false) : tms life clock drift l = (-9223372036854775808, 9223372036854775807) := by
  have key : ∀ (l : List Ck) (r : Int × Int), has life l = false → l.foldl (tm life clock drift) r = r := by
    intro l
    induction l with
    | nil => intro r _; rfl
    | cons c l ih =>
      intro r h
      simp only [has, List.any_cons, Bool.or_eq_false_iff, decide_eq_false_iff_not] at h
      rw [List.foldl_cons]
      have e : tm life clock drift r c = r := by unfold tm; rw [if_neg h.1]
      rw [e]
      exact ih r h.2
  exact key l _ h
theorem Two.alloc_ {w : World} {g : Nat} {x y : Int} (h : Two w g x y) (o : Obj) : Two (w.alloc o) g x y := h.below ((Below.refl _ _).alloc (Nat.le_refl _) o) h.lt
theorem set_alloc {W0 w : World} {g : Nat} {x y : Int} (h : Two w g x y) (hg : W0.grownBy w (some g)) (x' y' : Int) (o : Obj) :
    Two (((w.setCell ⟨g, 0, none⟩ (.int .i64 x')).setCell ⟨g, 1, none⟩ (.int .i64 y')).alloc o) g x' y' ∧ W0.grownBy (((w.setCell ⟨g, 0, none⟩ (.int .i64 x')).setCell ⟨g, 1, none⟩ (.int .i64 y')).alloc o) (some g) :=
  ⟨(h.set x' y').alloc_ o, only_alloc (only_set (only_set hg _ rfl _) _ rfl _) o⟩
theorem set2_alloc {W0 w : World} {g : Nat} {x y : Int} (h : Two w g x y) (hg : W0.grownBy w (some g)) (x' y' : Int) (o : Obj) :
    Two (((((w.setCell ⟨g, 0, none⟩ (.int .i64 x')).setCell ⟨g, 1, none⟩ (.int .i64 y')).setCell ⟨g, 0, none⟩ (.int .i64 x')).setCell ⟨g, 1, none⟩ (.int .i64 y')).alloc o) g x' y' ∧
    W0.grownBy (((((w.setCell ⟨g, 0, none⟩ (.int .i64 x')).setCell ⟨g, 1, none⟩ (.int .i64 y')).setCell ⟨g, 0, none⟩ (.int .i64 x')).setCell ⟨g, 1, none⟩ (.int .i64 y')).alloc o) (some g) :=
  ⟨((h.set x' y').set x' y').alloc_ o, only_alloc (only_set (only_set (only_set (only_set hg _ rfl _) _ rfl _) _ rfl _) _ rfl _) o⟩
theorem ifmax (a b : Int) : (if a < b then b else a) = max a b := by split <;> omega
theorem ifmin (a b : Int) : (if b < a then b else a) = min a b := by split <;> omega
/-- What the reference keeps. -/
def outs (life clock drift : Int) (l : List Ck) : Int × Int := if has life l then tms life clock drift l else (0, 0)

set_option maxHeartbeats 800000 in
theorem refTime_any (a : Option Addr) (l : List Ck) (cap : Nat) (drift life clock : Int) (w : World) (hl : CksAt w w.heap.size a l) (hm : l.length ≤ 9223372036854775807) :
    Calls Try.prog 19 #[.slice a l.length cap, .int .i64 drift, .int .i64 life, .int .i64 clock] w fun e w' =>
      e = .returned (.tuple #[rg (timeR l drift life clock).1 (timeR l drift life clock).2.1, .int .i64 (timeR l drift life clock).2.2]) ∧ Below w.heap.size w w' := by
  by_cases hE : chk l drift = 0
  · obtain ⟨hlen, hd0, hd1, hall⟩ := chk_all l drift hE
    by_cases hA : 0 ≤ life ∧ life ≤ 255
    · by_cases hB : 0 ≤ clock ∧ clock ≤ 1099511627776
      · go_enter Try.func19, Try.ntmps19
        go_wp2_with fail
        refine (valids_any a l cap drift _ (hl.mono ((Below.refl _ _).alloc (Nat.le_refl _) _) |>.more (by simp)) hm).mono ?_
        rintro e w1 ⟨rfl, hb1⟩
        rw [hE]
        go_wp2_with fail
        refine (within_yes _ _ _ hA.1 hA.2).mono ?_
        rintro e w' ⟨rfl, rfl⟩
        go_wp2_with fail
        refine (within_yes _ _ _ hB.1 hB.2).mono ?_
        rintro e w' ⟨rfl, rfl⟩
        go_wp2
        obtain ⟨W0, hW0⟩ : ∃ W0, W0 = w1.alloc (.cells #[.int .i64 0, .int .i64 0] 53) := ⟨_, rfl⟩
        have hG : Two W0 w1.heap.size 0 0 := by rw [hW0]; exact Two.new ..
        have hbW : Below (w.heap.size + 1) (w.alloc (.cells #[.int .i64 0, .int .i64 0] 53)) W0 := by rw [hW0]; have := hb1.alloc hb1.size (.cells #[.int .i64 0, .int .i64 0] 53); simpa using this
        rw [← hW0]
        have hgW : w1.heap.size < W0.heap.size := hG.lt
        have hg1 : w.heap.size + 1 ≤ w1.heap.size := by simpa using hb1.size
        generalize w1.heap.size = g at *
        clear hW0 hb1
        have hlW : CksAt W0 (w.heap.size + 1) a l := ((hl.mono ((Below.refl _ _).alloc (Nat.le_refl _) _)).more (Nat.le_succ _)).mono hbW
        go_loopw [11, 13] (fun f i wr => ∃ k : Nat, k ≤ l.length ∧ i = .int .i64 k ∧ f = .bool (has life (l.take k)) ∧ Two wr g (outs life clock drift (l.take k)).1 (outs life clock drift (l.take k)).2 ∧ W0.grownBy wr (some g)) (fun _ i _ => l.length - (intOf i).toNat)
        case atStart => exact ⟨0, Nat.zero_le _, rfl, rfl, hG, World.grownBy.refl _ _⟩
        case round =>
          obtain ⟨k, hk, rfl, rfl, hT, hgr⟩ := hrel
          by_cases hlt : k < l.length
          · obtain ⟨ad, rfl, hlt2, hc⟩ := hlW (by omega)
            obtain ⟨c0, c1, c2, c3⟩ := (hc k hlt).grown hgr (by rw [add_block]; omega) (by rw [add_block]; omega)
            have z := ckE_zero _ (hall l[k] (List.getElem_mem hlt))
            have hS := Lib.hid (foldl_snoc (tm life clock drift) (-9223372036854775808, 9223372036854775807) l k hlt)
            have hH := Lib.hid (has_snoc life l k hlt)
            have hT0 := hT.c0
            have hT1 := hT.c1
            have hf0 := hT.free 0
            have hf1 := hT.free 1
            have hwr := hgr.size
            clear hc hall hl hlW hE
            generalize l[k] = c at *
            obtain ⟨li, cl, lo, hi⟩ := c
            simp only at c0 c1 c2 c3 z
            by_cases he : li = life
            · subst he
              have hzz : (li != li) = false := by simp
              generalize hhq : has li (l.take k) = hh at *
              have Hhq := Lib.hid hhq
              clear hhq
              generalize htm : outs li clock drift (l.take k) = r at *
              obtain ⟨x, y⟩ := r
              have Htm := Lib.hid htm
              clear htm
              have HT := Lib.hid hT
              clear hT
              simp only at hT0 hT1
              have hg2 : g < wr.heap.size := by omega
              go_wp2_with fail
              refine (by_any _ _ _ _ _ _ _ (by omega) (by omega) (by omega) (by omega) (by omega) (by omega) (by omega) (by omega) (by omega) (by omega)).mono ?_
              rintro e wa ⟨rfl, hba⟩
              have hTa := HT.out.below hba hg2
              have hta0 := hTa.c0
              have hta1 := hTa.c1
              have htf0 := hTa.free 0
              have htf1 := hTa.free 1
              have hga := hTa.lt
              clear hT0 hT1 hf0 hf1 c0 c1 c2 c3
              cases hh with
              | true =>
                go_wp2
                go_roundw
                case rel =>
                  have hS' := hS.out
                  have h2 := set_alloc hTa (only_below hgr hba) (max x (lo + (clock - cl) - wrg (clock - cl) drift)) (min y (hi + (clock - cl) + wrg (clock - cl) drift)) (.cells #[.int .i64 (lo + (clock - cl) - wrg (clock - cl) drift), .int .i64 (hi + (clock - cl) + wrg (clock - cl) drift)] 53)
                  have e : outs li clock drift (l.take (k + 1)) = (max x (lo + (clock - cl) - wrg (clock - cl) drift), min y (hi + (clock - cl) + wrg (clock - cl) drift)) := by
                    have h1 : outs li clock drift (l.take k) = tms li clock drift (l.take k) := by unfold outs; rw [if_pos Hhq.out]
                    have h3 := Htm.out
                    rw [h1] at h3
                    unfold outs
                    rw [if_pos (by rw [hH.out]; simp)]
                    show List.foldl _ _ _ = _
                    rw [hS']
                    show tm li clock drift (tms li clock drift (l.take k)) _ = _
                    rw [h3]
                    unfold tm
                    rw [if_pos rfl]
                  exact ⟨k + 1, by omega, by go_num, by rw [hH.out]; simp, by rw [e, ifmax, ifmin]; exact h2.1, by rw [ifmax, ifmin]; exact h2.2⟩
                case measure => simp [intOf]; omega
              | false =>
                go_wp2
                go_roundw
                case rel =>
                  have hS' := hS.out
                  have h2 := set2_alloc hTa (only_below hgr hba) (lo + (clock - cl) - wrg (clock - cl) drift) (hi + (clock - cl) + wrg (clock - cl) drift) (.cells #[.int .i64 (lo + (clock - cl) - wrg (clock - cl) drift), .int .i64 (hi + (clock - cl) + wrg (clock - cl) drift)] 53)
                  have e : outs li clock drift (l.take (k + 1)) = (lo + (clock - cl) - wrg (clock - cl) drift, hi + (clock - cl) + wrg (clock - cl) drift) := by
                    have hw := wrg_bd (clock - cl) drift (by omega) (by omega) (by omega) (by omega)
                    unfold outs
                    rw [if_pos (by rw [hH.out]; simp)]
                    show List.foldl _ _ _ = _
                    rw [hS']
                    show tm li clock drift (tms li clock drift (l.take k)) _ = _
                    rw [tms_none li clock drift _ Hhq.out]
                    unfold tm
                    rw [if_pos rfl]
                    simp only [Prod.mk.injEq]
                    omega
                  exact ⟨k + 1, by omega, by go_num, by rw [hH.out]; simp, by rw [e]; exact h2.1, h2.2⟩
                case measure => simp [intOf]; omega
            · have hne : (li != life) = true := by simpa using he
              have HT := Lib.hid hT
              clear hT hT0 hT1 hf0 hf1
              go_wp2
              go_roundw
              case rel =>
                have hS' := hS.out
                have e : outs life clock drift (l.take (k + 1)) = outs life clock drift (l.take k) := by
                  have e1 : tms life clock drift (l.take (k + 1)) = tms life clock drift (l.take k) := by
                    show List.foldl _ _ _ = _
                    rw [hS']
                    show tm life clock drift (tms life clock drift (l.take k)) _ = _
                    unfold tm
                    rw [if_neg he]
                  unfold outs
                  rw [hH.out, e1]
                  simp [he]
                exact ⟨k + 1, by omega, by go_num, by rw [hH.out]; simp [he], by rw [e]; exact HT.out, hgr⟩
              case measure => simp [intOf]; omega
          · have hk' : l.take k = l := List.take_of_length_le (by omega)
            rw [hk'] at hT ⊢
            have hR : Two wr w.heap.size 0 0 := ((Two.new w 0 0).below hbW (Nat.lt_succ_self _)).kept hgr (by intro e; injection e; omega)
            have hBw : Below w.heap.size w wr := ((((Below.refl _ _).alloc (Nat.le_refl _) _).trans (hbW.mono (Nat.le_succ _)))).grown hgr (by have := hbW.size; simp at this; omega) (by intro k e; injection e; omega)
            have hT0 := hT.c0
            have hT1 := hT.c1
            have hR0 := hR.c0
            have hR1 := hR.c1
            have hRf0 := hR.free 0
            have hRf1 := hR.free 1
            have hRl := hR.lt
            cases hhas : has life l with
            | false =>
              have e0 : timeR l drift life clock = (0, 0, 5) := by unfold timeR; rw [if_neg (by simp [hE]), if_neg (by omega), if_pos hhas]
              have H0 := Lib.hid e0
              clear e0 hhas hE hk'
              go_wp2
              exact bodyPost_ret (v := .tuple #[rg 0 0, .int .i64 5]) (by simp [results, Try.results19, go_sem, hR0, hR1, rg]) rfl ⟨by rw [H0.out], (hBw.setCell (Nat.le_refl _) _).setCell (Nat.le_refl _) _⟩
            | true =>
              have ho : outs life clock drift l = tms life clock drift l := by unfold outs; rw [if_pos hhas]
              rw [ho] at hT hT0 hT1
              clear ho
              by_cases hlo : (tms life clock drift l).2 < (tms life clock drift l).1
              · have e0 : timeR l drift life clock = (0, 0, 21) := by unfold timeR; rw [if_neg (by simp [hE]), if_neg (by omega), if_neg (by simp [hhas]), if_pos hlo]
                have H0 := Lib.hid e0
                clear e0 hhas hE hk'
                go_wp2
                exact bodyPost_ret (v := .tuple #[rg 0 0, .int .i64 21]) (by simp [results, Try.results19, go_sem, hR0, hR1, rg]) rfl ⟨by rw [H0.out], (hBw.setCell (Nat.le_refl _) _).setCell (Nat.le_refl _) _⟩
              · have e0 : timeR l drift life clock = ((tms life clock drift l).1, (tms life clock drift l).2, 0) := by unfold timeR; rw [if_neg (by simp [hE]), if_neg (by omega), if_neg (by simp [hhas]), if_neg hlo]
                have H0 := Lib.hid e0
                clear e0 hhas hE hk'
                go_wp2
                exact bodyPost_ret (v := .tuple #[rg (tms life clock drift l).1 (tms life clock drift l).2, .int .i64 0]) (by simp [results, Try.results19, go_sem, hR0, hR1, rg]) rfl ⟨by rw [H0.out], (hBw.setCell (Nat.le_refl _) _).setCell (Nat.le_refl _) _⟩
      · have e0 : timeR l drift life clock = (0, 0, 1) := by unfold timeR; rw [if_neg (by simp [hE]), if_pos (by omega)]
        have H0 := Lib.hid e0
        clear e0
        go_enter Try.func19, Try.ntmps19
        go_wp2_with fail
        refine (valids_any a l cap drift _ (hl.mono ((Below.refl _ _).alloc (Nat.le_refl _) _) |>.more (by simp)) hm).mono ?_
        rintro e w1 ⟨rfl, hb1⟩
        rw [hE]
        have hR : Two w1 w.heap.size 0 0 := (Two.new w 0 0).below hb1 (by simp)
        have hR0 := hR.c0
        have hR1 := hR.c1
        have hRf0 := hR.free 0
        have hRf1 := hR.free 1
        clear hE hR
        go_wp2_with fail
        refine (within_yes _ _ _ hA.1 hA.2).mono ?_
        rintro e w' ⟨rfl, rfl⟩
        go_wp2_with fail
        refine (within_no _ _ _ hB).mono ?_
        rintro e w' ⟨rfl, rfl⟩
        go_wp2
        exact bodyPost_ret (v := .tuple #[rg 0 0, .int .i64 1]) (by simp [results, Try.results19, go_sem, hR0, hR1, rg]) rfl ⟨by rw [H0.out], (((((Below.refl _ _).alloc (Nat.le_refl _) _).trans (hb1.mono (by simp))).setCell (Nat.le_refl _) _).setCell (Nat.le_refl _) _)⟩
    · have e0 : timeR l drift life clock = (0, 0, 1) := by unfold timeR; rw [if_neg (by simp [hE]), if_pos (by omega)]
      have H0 := Lib.hid e0
      clear e0
      go_enter Try.func19, Try.ntmps19
      go_wp2_with fail
      refine (valids_any a l cap drift _ (hl.mono ((Below.refl _ _).alloc (Nat.le_refl _) _) |>.more (by simp)) hm).mono ?_
      rintro e w1 ⟨rfl, hb1⟩
      rw [hE]
      have hR : Two w1 w.heap.size 0 0 := (Two.new w 0 0).below hb1 (by simp)
      have hR0 := hR.c0
      have hR1 := hR.c1
      have hRf0 := hR.free 0
      have hRf1 := hR.free 1
      clear hE hR
      go_wp2_with fail
      refine (within_no _ _ _ hA).mono ?_
      rintro e w' ⟨rfl, rfl⟩
      go_wp2
      exact bodyPost_ret (v := .tuple #[rg 0 0, .int .i64 1]) (by simp [results, Try.results19, go_sem, hR0, hR1, rg]) rfl ⟨by rw [H0.out], (((((Below.refl _ _).alloc (Nat.le_refl _) _).trans (hb1.mono (by simp))).setCell (Nat.le_refl _) _).setCell (Nat.le_refl _) _)⟩
  · have e0 : timeR l drift life clock = (0, 0, chk l drift) := by unfold timeR; rw [if_pos hE]
    have H0 := Lib.hid e0
    clear e0
    go_enter Try.func19, Try.ntmps19
    go_wp2_with fail
    refine (valids_any a l cap drift _ (hl.mono ((Below.refl _ _).alloc (Nat.le_refl _) _) |>.more (by simp)) hm).mono ?_
    rintro e w1 ⟨rfl, hb1⟩
    have hR : Two w1 w.heap.size 0 0 := (Two.new w 0 0).below hb1 (by simp)
    have hR0 := hR.c0
    have hR1 := hR.c1
    have hRf0 := hR.free 0
    have hRf1 := hR.free 1
    have hq : (chk l drift == 0) = false := by simpa using hE
    have hq2 : (chk l drift != 0) = true := by simpa using hE
    clear hR hE
    generalize chk l drift = q at *
    go_wp2
    exact bodyPost_ret (v := .tuple #[rg 0 0, .int .i64 q]) (by simp [results, Try.results19, go_sem, hR0, hR1, rg]) rfl ⟨by rw [H0.out], (((((Below.refl _ _).alloc (Nat.le_refl _) _).trans (hb1.mono (by simp))).setCell (Nat.le_refl _) _).setCell (Nat.le_refl _) _)⟩
end Go.Proofs.Ytkdmdoipjhcmgaa
