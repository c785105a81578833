/- Time: the program's function of frame/clock.go. -/
import Derived.Test.YtjahaljdfpengaaClk
import Derived.Deep.RegionHeld3
import Derived.Deep.RegionLaw
namespace Go.Proofs.Ytjahaljdfpengaa
open Go.RowKit

/-- The range by a check of the life, met with what there was. -/
def tm (life clock drift : Int) (r : Int × Int) (c : Ck) : Int × Int :=
  if c.life = life then (max r.1 (c.lo + (clock - c.clock) - wrg (clock - c.clock) drift), min r.2 (c.hi + (clock - c.clock) + wrg (clock - c.clock) drift)) else r
def tms (life clock drift : Int) (l : List Ck) : Int × Int := l.foldl (tm life clock drift) (-9223372036854775808, 9223372036854775807)
def has (life : Int) (l : List Ck) : Bool := l.any fun c => decide (c.life = life)
/-- What Time returns. -/
def timeR (l : List Ck) (drift life clock : Int) : Int × Int × Int :=
  if chk l drift ≠ 0 then (0, 0, chk l drift)
  else if ¬ ((0 ≤ life ∧ life ≤ 255) ∧ 0 ≤ clock ∧ clock ≤ 1099511627776) then (0, 0, 1)
  else if has life l = false then (0, 0, 5)
  else if (tms life clock drift l).2 < (tms life clock drift l).1 then (0, 0, 21)
  else ((tms life clock drift l).1, (tms life clock drift l).2, 0)

theorem foldl_snoc {α β : Type} (f : β → α → β) (b : β) (l : List α) (k : Nat) (hk : k < l.length) : (l.take (k + 1)).foldl f b = f ((l.take k).foldl f b) l[k] := by
  rw [List.take_succ_eq_append_getElem hk, List.foldl_append]
  rfl
theorem has_snoc (life : Int) (l : List Ck) (k : Nat) (hk : k < l.length) : has life (l.take (k + 1)) = (has life (l.take k) || decide (l[k].life = life)) := by
  unfold has
  rw [List.take_succ_eq_append_getElem hk, List.any_append]
  simp

theorem chk_all (l : List Ck) (d : Int) (h : chk l d = 0) : l.length ≤ 16 ∧ 0 ≤ d ∧ d ≤ 100000 ∧ ∀ c ∈ l, ckE c = 0 := by
  unfold chk at h
  split at h
  · contradiction
  · split at h
    · contradiction
    · rename_i h1 h2
      refine ⟨by omega, by omega, by omega, ?_⟩
      clear h1 h2
      induction l with
      | nil => intro c hc; cases hc
      | cons x l ih =>
        unfold ckErr at h
        split at h
        · rename_i hx
          intro c hc
          rcases List.mem_cons.1 hc with rfl | hc
          · exact hx
          · exact ih h c hc
        · contradiction
theorem ckE_zero (c : Ck) (h : ckE c = 0) : (0 ≤ c.life ∧ c.life ≤ 255) ∧ (0 ≤ c.clock ∧ c.clock ≤ 1099511627776) ∧ (0 ≤ c.lo ∧ c.lo ≤ 1099511627776) ∧ (0 ≤ c.hi ∧ c.hi ≤ 1099511627776) ∧ c.lo ≤ c.hi := by
  unfold ckE at h
  split at h
  · contradiction
  · split at h
    · contradiction
    · split at h
      · contradiction
      · omega

theorem bcell {W w1 : World} (hb : Below W.heap.size W w1) : (∀ b o, b < W.heap.size → w1.cell? ⟨b, o, none⟩ = W.cell? ⟨b, o, none⟩) ∧ (∀ b o, b < W.heap.size → w1.frozen? ⟨b, o, none⟩ = W.frozen? ⟨b, o, none⟩) :=
  ⟨fun b o h => hb.cell (p := ⟨b, o, none⟩) h, fun b o h => hb.frozen (p := ⟨b, o, none⟩) h⟩

/-- A block with two numbers. -/
def Two (w : World) (g : Nat) (x y : Int) : Prop := w.heap[g]? = some (.cells #[.int .i64 x, .int .i64 y] 160 (0, 0))
theorem Two.new (w : World) (x y : Int) : Two (w.alloc (.cells #[.int .i64 x, .int .i64 y] 160)) w.heap.size x y := heap_alloc_new w _
theorem Two.lt {w : World} {g : Nat} {x y : Int} (h : Two w g x y) : g < w.heap.size := lt_of_block h
theorem Two.c0 {w : World} {g : Nat} {x y : Int} (h : Two w g x y) : w.cell? ⟨g, 0, none⟩ = some (.int .i64 x) := by unfold Two at h; simp [World.cell?, h]
theorem Two.c1 {w : World} {g : Nat} {x y : Int} (h : Two w g x y) : w.cell? ⟨g, 1, none⟩ = some (.int .i64 y) := by unfold Two at h; simp [World.cell?, h]
theorem Two.free {w : World} {g : Nat} {x y : Int} (h : Two w g x y) (i : Nat) : w.frozen? ⟨g, i, none⟩ = false := by unfold Two at h; simp [World.frozen?, h]
theorem Two.kept {w w' : World} {g : Nat} {x y : Int} {row : Option Nat} (h : Two w g x y) (hb : w.grownBy w' row) (hg : some g ≠ row) : Two w' g x y := (hb.block g h.lt hg).trans h
theorem Two.below {w w' : World} {g B : Nat} {x y : Int} (h : Two w g x y) (hb : Below B w w') (hg : g < B) : Two w' g x y := (hb.block g hg).trans h
theorem CkAt.grown {w w' : World} {g : Nat} {p : Addr} {c : Ck} (h : CkAt w p c) (hb : w.grownBy w' (some g)) (hp : p.block < w.heap.size) (hg : p.block ≠ g) : CkAt w' p c := by
  have e : some p.block ≠ some g := fun e => hg (Option.some.inj e)
  have f : ∀ q : Addr, q.block = p.block → w'.cell? q = w.cell? q := fun q hq => World.cell?_of_block (hb.block q.block (by rw [hq]; exact hp) (by rw [hq]; exact e))
  exact ⟨(f p rfl).trans h.life, (f ⟨p.block, p.off + 1, none⟩ rfl).trans h.clock, (f ⟨p.block, p.off + 2, none⟩ rfl).trans h.lo, (f ⟨p.block, p.off + 3, none⟩ rfl).trans h.hi⟩

theorem only_alloc {a w : World} {row : Option Nat} (h : a.grownBy w row) (o : Obj) : a.grownBy (w.alloc o) row :=
  ⟨h.os, h.tape, h.output, Nat.le_trans h.size (by simp), fun i hi hne => (Below.heap_alloc w o i (Nat.lt_of_lt_of_le hi h.size)).trans (h.block i hi hne)⟩
theorem only_below {a w w' : World} {row : Option Nat} (h : a.grownBy w row) (hb : Below w.heap.size w w') : a.grownBy w' row :=
  ⟨hb.os.trans h.os, hb.tape.trans h.tape, hb.output.trans h.output, Nat.le_trans h.size hb.size, fun i hi hne => (hb.block i (Nat.lt_of_lt_of_le hi h.size)).trans (h.block i hi hne)⟩
theorem only_set {a w : World} {g : Nat} (h : a.grownBy w (some g)) (p : Addr) (hp : p.block = g) (u : Value) : a.grownBy (w.setCell p u) (some g) :=
  ⟨h.os, h.tape, h.output, by simpa [World.setCell] using h.size, fun i hi hne => (Below.heap_setCell w p u i (by rintro rfl; exact hne (by rw [hp]))).trans (h.block i hi hne)⟩
theorem Two.set {w : World} {g : Nat} {x y : Int} (h : Two w g x y) (x' y' : Int) : Two ((w.setCell ⟨g, 0, none⟩ (.int .i64 x')).setCell ⟨g, 1, none⟩ (.int .i64 y')) g x' y' := by
  unfold Two at h ⊢
  simp [World.setCell, Array.getElem?_modify, h]
theorem two_step {W0 wr X wa wb : World} {g : Nat} {x y : Int} (hgr : W0.grownBy wr (some g)) (hT : Two wr g x y) (hX : Below wr.heap.size wr X) (ha : Below X.heap.size X wa) (hb : Below wa.heap.size wa wb) (x' y' : Int) :
    Two ((wb.setCell ⟨g, 0, none⟩ (.int .i64 x')).setCell ⟨g, 1, none⟩ (.int .i64 y')) g x' y' ∧ W0.grownBy ((wb.setCell ⟨g, 0, none⟩ (.int .i64 x')).setCell ⟨g, 1, none⟩ (.int .i64 y')) (some g) := by
  have h3 : Below wr.heap.size wr wb := hX.trans ((ha.mono hX.size).trans (hb.mono (Nat.le_trans hX.size ha.size)))
  exact ⟨(hT.below h3 hT.lt).set x' y', only_set (only_set (only_below hgr h3) _ rfl _) _ rfl _⟩

set_option maxHeartbeats 800000 in
theorem time_any (a : Option Addr) (l : List Ck) (cap : Nat) (drift life clock : Int) (w : World) (hl : CksAt w w.heap.size a l) (hm : l.length ≤ 9223372036854775807) :
    Calls Try.prog 81 #[.slice a l.length cap, .int .i64 drift, .int .i64 life, .int .i64 clock] w fun e w' =>
      e = .returned (.tuple #[rg (timeR l drift life clock).1 (timeR l drift life clock).2.1, .int .i64 (timeR l drift life clock).2.2]) ∧ Below w.heap.size w w' := by
  by_cases hE : chk l drift = 0
  · obtain ⟨hlen, hd0, hd1, hall⟩ := chk_all l drift hE
    by_cases hA : 0 ≤ life ∧ life ≤ 255
    · by_cases hB : 0 ≤ clock ∧ clock ≤ 1099511627776
      · go_enter Try.func81, Try.ntmps81
        go_wp2_with fail
        refine (checks_any a l cap drift _ (hl.mono ((Below.refl _ _).alloc (Nat.le_refl _) _) |>.more (by simp)) hm).mono ?_
        rintro e w1 ⟨rfl, hb1⟩
        rw [hE]
        go_wp2_with fail
        refine (upTo_yes _ _ _ hA.1 hA.2).mono ?_
        rintro e w' ⟨rfl, rfl⟩
        go_wp2_with fail
        refine (upTo_yes _ _ _ hB.1 hB.2).mono ?_
        rintro e w' ⟨rfl, rfl⟩
        go_wp2
        obtain ⟨W0, hW0⟩ : ∃ W0, W0 = w1.alloc (.cells #[.int .i64 (-9223372036854775808), .int .i64 9223372036854775807] 160) := ⟨_, rfl⟩
        have hG : Two W0 w1.heap.size (-9223372036854775808) 9223372036854775807 := by rw [hW0]; exact Two.new ..
        have hbW : Below (w.heap.size + 1) (w.alloc (.cells #[.int .i64 0, .int .i64 0] 160)) W0 := by rw [hW0]; have := hb1.alloc hb1.size (.cells #[.int .i64 (-9223372036854775808), .int .i64 9223372036854775807] 160); simpa using this
        rw [← hW0]
        have hgW : w1.heap.size < W0.heap.size := hG.lt
        have hg1 : w.heap.size + 1 ≤ w1.heap.size := by simpa using hb1.size
        generalize w1.heap.size = g at *
        clear hW0 hb1
        have hlW : CksAt W0 (w.heap.size + 1) a l := ((hl.mono ((Below.refl _ _).alloc (Nat.le_refl _) _)).more (Nat.le_succ _)).mono hbW
        go_loopw [11, 34] (fun f i wr => ∃ k : Nat, k ≤ l.length ∧ i = .int .i64 k ∧ f = .bool (has life (l.take k)) ∧ Two wr g (tms life clock drift (l.take k)).1 (tms life clock drift (l.take k)).2 ∧ W0.grownBy wr (some g)) (fun _ i _ => l.length - (intOf i).toNat)
        case atStart => exact ⟨0, Nat.zero_le _, rfl, rfl, hG, World.grownBy.refl _ _⟩
        case round =>
          obtain ⟨k, hk, rfl, rfl, hT, hgr⟩ := hrel
          by_cases hlt : k < l.length
          · obtain ⟨ad, rfl, hlt2, hc⟩ := hlW (by omega)
            obtain ⟨c0, c1, c2, c3⟩ := (hc k hlt).grown hgr (by rw [add_block]; omega) (by rw [add_block]; omega)
            have z := ckE_zero _ (hall l[k] (List.getElem_mem hlt))
            have hS := Lib.hid (foldl_snoc (tm life clock drift) (-9223372036854775808, 9223372036854775807) l k hlt)
            have hH := Lib.hid (has_snoc life l k hlt)
            have hT0 := hT.c0
            have hT1 := hT.c1
            have hf0 := hT.free 0
            have hf1 := hT.free 1
            have hwr := hgr.size
            clear hc hall hl hlW hE
            generalize l[k] = c at *
            obtain ⟨li, cl, lo, hi⟩ := c
            simp only at c0 c1 c2 c3 z
            by_cases he : li = life
            · subst he
              generalize has li (l.take k) = hh at *
              have HT := Lib.hid hT
              clear hT
              generalize htm : tms li clock drift (l.take k) = r at *
              obtain ⟨x, y⟩ := r
              have Htm := Lib.hid htm
              clear htm
              simp only at hT0 hT1
              go_wp2_with fail
              have hg2 : g < wr.heap.size := by omega
              have hg3 : g < wr.heap.size + 1 := by omega
              go_region_with (first | (go_at_call 127; refine (at_any _ _ _ _ _ _ _ (by omega) (by omega) (by omega) (by omega) (by omega) (by omega) (by omega) (by omega) (by omega) (by omega)).mono ?_; rintro e wa ⟨rfl, hba⟩; obtain ⟨hca, hfa⟩ := bcell hba; have hga : g < wa.heap.size := (by have := hba.size; simp at this; omega)) | (go_at_call 126; refine (meet_any _ _ _ _ _).mono ?_; rintro e wb ⟨rfl, hbb⟩; obtain ⟨hcb, hfb⟩ := bcell hbb; have hgb : g < wb.heap.size := (by have := hbb.size; omega)))
              all_goals
                clear hca hfa hcb hfb hT0 hT1 hf0 hf1 c0 c1 c2 c3
                go_wp2
                go_roundw
                case rel =>
                  have hS' := hS.out
                  have h2 := two_step hgr HT.out ((Below.refl _ _).alloc (Nat.le_refl _) _).drew hba hbb (max x (lo + (clock - cl) - wrg (clock - cl) drift)) (min y (hi + (clock - cl) + wrg (clock - cl) drift))
                  have e : tms li clock drift (l.take (k + 1)) = (max x (lo + (clock - cl) - wrg (clock - cl) drift), min y (hi + (clock - cl) + wrg (clock - cl) drift)) := by
                    show List.foldl _ _ _ = _
                    rw [hS']
                    show tm li clock drift (tms li clock drift (l.take k)) _ = _
                    rw [Htm.out]
                    unfold tm
                    rw [if_pos rfl]
                  exact ⟨k + 1, by omega, by go_num, by rw [hH.out]; simp, by rw [e]; exact h2.1, h2.2⟩
                case measure => simp [intOf]; omega
            · have hne : (li == life) = false := by simpa using he
              have HT := Lib.hid hT
              clear hT hT0 hT1 hf0 hf1
              go_wp2
              go_roundw
              case rel =>
                have hS' := hS.out
                have e : tms life clock drift (l.take (k + 1)) = tms life clock drift (l.take k) := by
                  show List.foldl _ _ _ = _
                  rw [hS']
                  show tm life clock drift (tms life clock drift (l.take k)) _ = _
                  unfold tm
                  rw [if_neg he]
                have hgr' := only_alloc hgr (.cells #[.int .i64 li, .int .i64 cl, .int .i64 lo, .int .i64 hi] 164)
                exact ⟨k + 1, by omega, by go_num, by rw [hH.out]; simp [he], by rw [e]; exact HT.out.below ((Below.refl wr.heap.size _).alloc (Nat.le_refl _) _) HT.out.lt, hgr'⟩
              case measure => simp [intOf]; omega
          · have hk' : l.take k = l := List.take_of_length_le (by omega)
            rw [hk'] at hT ⊢
            have hR : Two wr w.heap.size 0 0 := ((Two.new w 0 0).below hbW (Nat.lt_succ_self _)).kept hgr (by intro e; injection e; omega)
            have hBw : Below w.heap.size w wr := ((((Below.refl _ _).alloc (Nat.le_refl _) _).trans (hbW.mono (Nat.le_succ _)))).grown hgr (by have := hbW.size; simp at this; omega) (by intro k e; injection e; omega)
            have hT0 := hT.c0
            have hT1 := hT.c1
            have hR0 := hR.c0
            have hR1 := hR.c1
            have hRf0 := hR.free 0
            have hRf1 := hR.free 1
            have hRl := hR.lt
            cases hhas : has life l with
            | false =>
              have e0 : timeR l drift life clock = (0, 0, 5) := by unfold timeR; rw [if_neg (by simp [hE]), if_neg (by omega), if_pos hhas]
              have H0 := Lib.hid e0
              clear e0 hhas hE hk'
              go_wp2
              exact bodyPost_ret (v := .tuple #[rg 0 0, .int .i64 5]) (by simp [results, Try.results81, go_sem, hR0, hR1, rg]) rfl ⟨by rw [H0.out], (hBw.setCell (Nat.le_refl _) _).setCell (Nat.le_refl _) _⟩
            | true =>
              by_cases hlo : (tms life clock drift l).2 < (tms life clock drift l).1
              · have e0 : timeR l drift life clock = (0, 0, 21) := by unfold timeR; rw [if_neg (by simp [hE]), if_neg (by omega), if_neg (by simp [hhas]), if_pos hlo]
                have H0 := Lib.hid e0
                clear e0 hhas hE hk'
                go_wp2
                exact bodyPost_ret (v := .tuple #[rg 0 0, .int .i64 21]) (by simp [results, Try.results81, go_sem, hR0, hR1, rg]) rfl ⟨by rw [H0.out], (hBw.setCell (Nat.le_refl _) _).setCell (Nat.le_refl _) _⟩
              · have e0 : timeR l drift life clock = ((tms life clock drift l).1, (tms life clock drift l).2, 0) := by unfold timeR; rw [if_neg (by simp [hE]), if_neg (by omega), if_neg (by simp [hhas]), if_neg hlo]
                have H0 := Lib.hid e0
                clear e0 hhas hE hk'
                go_wp2
                exact bodyPost_ret (v := .tuple #[rg (tms life clock drift l).1 (tms life clock drift l).2, .int .i64 0]) (by simp [results, Try.results81, go_sem, hR0, hR1, rg]) rfl ⟨by rw [H0.out], (hBw.setCell (Nat.le_refl _) _).setCell (Nat.le_refl _) _⟩
      · have e0 : timeR l drift life clock = (0, 0, 1) := by unfold timeR; rw [if_neg (by simp [hE]), if_pos (by omega)]
        have H0 := Lib.hid e0
        clear e0
        go_enter Try.func81, Try.ntmps81
        go_wp2_with fail
        refine (checks_any a l cap drift _ (hl.mono ((Below.refl _ _).alloc (Nat.le_refl _) _) |>.more (by simp)) hm).mono ?_
        rintro e w1 ⟨rfl, hb1⟩
        rw [hE]
        have hR : Two w1 w.heap.size 0 0 := (Two.new w 0 0).below hb1 (by simp)
        have hR0 := hR.c0
        have hR1 := hR.c1
        have hRf0 := hR.free 0
        have hRf1 := hR.free 1
        clear hE hR
        go_wp2_with fail
        refine (upTo_yes _ _ _ hA.1 hA.2).mono ?_
        rintro e w' ⟨rfl, rfl⟩
        go_wp2_with fail
        refine (upTo_no _ _ _ hB).mono ?_
        rintro e w' ⟨rfl, rfl⟩
        go_wp2
        exact bodyPost_ret (v := .tuple #[rg 0 0, .int .i64 1]) (by simp [results, Try.results81, go_sem, hR0, hR1, rg]) rfl ⟨by rw [H0.out], (((((Below.refl _ _).alloc (Nat.le_refl _) _).trans (hb1.mono (by simp))).setCell (Nat.le_refl _) _).setCell (Nat.le_refl _) _)⟩
    · have e0 : timeR l drift life clock = (0, 0, 1) := by unfold timeR; rw [if_neg (by simp [hE]), if_pos (by omega)]
      have H0 := Lib.hid e0
      clear e0
      go_enter Try.func81, Try.ntmps81
      go_wp2_with fail
      refine (checks_any a l cap drift _ (hl.mono ((Below.refl _ _).alloc (Nat.le_refl _) _) |>.more (by simp)) hm).mono ?_
      rintro e w1 ⟨rfl, hb1⟩
      rw [hE]
      have hR : Two w1 w.heap.size 0 0 := (Two.new w 0 0).below hb1 (by simp)
      have hR0 := hR.c0
      have hR1 := hR.c1
      have hRf0 := hR.free 0
      have hRf1 := hR.free 1
      clear hE hR
      go_wp2_with fail
      refine (upTo_no _ _ _ hA).mono ?_
      rintro e w' ⟨rfl, rfl⟩
      go_wp2
      exact bodyPost_ret (v := .tuple #[rg 0 0, .int .i64 1]) (by simp [results, Try.results81, go_sem, hR0, hR1, rg]) rfl ⟨by rw [H0.out], (((((Below.refl _ _).alloc (Nat.le_refl _) _).trans (hb1.mono (by simp))).setCell (Nat.le_refl _) _).setCell (Nat.le_refl _) _)⟩
  · have e0 : timeR l drift life clock = (0, 0, chk l drift) := by unfold timeR; rw [if_pos hE]
    have H0 := Lib.hid e0
    clear e0
    go_enter Try.func81, Try.ntmps81
    go_wp2_with fail
    refine (checks_any a l cap drift _ (hl.mono ((Below.refl _ _).alloc (Nat.le_refl _) _) |>.more (by simp)) hm).mono ?_
    rintro e w1 ⟨rfl, hb1⟩
    have hR : Two w1 w.heap.size 0 0 := (Two.new w 0 0).below hb1 (by simp)
    have hR0 := hR.c0
    have hR1 := hR.c1
    have hRf0 := hR.free 0
    have hRf1 := hR.free 1
    have hq : (chk l drift == 0) = false := by simpa using hE
    have hq2 : (chk l drift != 0) = true := by simpa using hE
    clear hR hE
    generalize chk l drift = q at *
    go_wp2
    exact bodyPost_ret (v := .tuple #[rg 0 0, .int .i64 q]) (by simp [results, Try.results81, go_sem, hR0, hR1, rg]) rfl ⟨by rw [H0.out], (((((Below.refl _ _).alloc (Nat.le_refl _) _).trans (hb1.mono (by simp))).setCell (Nat.le_refl _) _).setCell (Nat.le_refl _) _)⟩
end Go.Proofs.Ytjahaljdfpengaa
