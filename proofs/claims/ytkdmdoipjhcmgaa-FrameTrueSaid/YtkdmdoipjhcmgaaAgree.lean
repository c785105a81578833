/- Agree: the program's function of frame/clock.go. -/
import Derived.Test.YtkdmdoipjhcmgaaSeal
import Derived.Deep.RegionHeld3
namespace Go.Proofs.Ytkdmdoipjhcmgaa
open Go.RowKit

/-- The ends of the range by a check. -/
def atLo (c : Ck) (clock d : Int) : Int := c.lo + (clock - c.clock) - wrg (clock - c.clock) d
def atHi (c : Ck) (clock d : Int) : Int := c.hi + (clock - c.clock) + wrg (clock - c.clock) d
/-- Two checks of one life contradict each other. -/
def Clash (d : Int) (c t : Ck) : Prop := c.life = t.life ∧ min (atHi c t.clock d) t.hi < max (atLo c t.clock d) t.lo
/-- No pair ahead of the indices i, k contradicts. -/
def NoneAhead (l : List Ck) (d : Int) (K I : Nat) : Prop := ∀ i k (hi : i < l.length) (hk : k < l.length), i < k → (k < K ∨ k = K ∧ i < I) → ¬ Clash d l[i] l[k]
/-- What Agree returns. -/
def AgreeIs (l : List Ck) (d a b e : Int) : Prop :=
  (chk l d ≠ 0 ∧ a = 0 ∧ b = 0 ∧ e = chk l d) ∨ (chk l d = 0 ∧ e = 0 ∧ a = -1 ∧ b = -1 ∧ NoneAhead l d l.length 0) ∨
  (chk l d = 0 ∧ e = 0 ∧ ∃ i k, ∃ (hi : i < l.length) (hk : k < l.length), i < k ∧ a = i ∧ b = k ∧ Clash d l[i] l[k] ∧ NoneAhead l d k i)
theorem AgreeIs.same {l : List Ck} {d a b e a' b' e' : Int} (h : AgreeIs l d a b e) (h' : AgreeIs l d a' b' e') : a = a' ∧ b = b' ∧ e = e' := by
  rcases h with ⟨h1, h2, h3, h4⟩ | ⟨h1, h2, h3, h4, h5⟩ | ⟨h1, h2, i, k, hi, hk, hik, h3, h4, h5, h6⟩ <;>
  rcases h' with ⟨g1, g2, g3, g4⟩ | ⟨g1, g2, g3, g4, g5⟩ | ⟨g1, g2, j, m, gi, gk, gik, g3, g4, g5, g6⟩
  · exact ⟨by omega, by omega, by omega⟩
  · exact absurd g1 h1
  · exact absurd g1 h1
  · exact absurd h1 g1
  · exact ⟨by omega, by omega, by omega⟩
  · exact absurd g5 (h5 j m gi gk gik (.inl gk))
  · exact absurd h1 g1
  · exact absurd h5 (g5 i k hi hk hik (.inl hk))
  · have hkm : k = m := by
      rcases Nat.lt_trichotomy k m with h | h | h
      · exact absurd h5 (g6 i k hi hk hik (.inl h))
      · exact h
      · exact absurd g5 (h6 j m gi gk gik (.inl h))
    subst hkm
    have hij : i = j := by
      rcases Nat.lt_trichotomy i j with h | h | h
      · exact absurd h5 (g6 i k hi hk hik (.inr ⟨rfl, h⟩))
      · exact h
      · exact absurd g5 (h6 j k gi gk gik (.inr ⟨rfl, h⟩))
    subst hij
    exact ⟨by omega, by omega, by omega⟩

theorem NoneAhead.start (l : List Ck) (d : Int) : NoneAhead l d 0 0 := fun i k _ _ hik h => by omega
theorem NoneAhead.next {l : List Ck} {d : Int} {K I : Nat} (h : NoneAhead l d K I) (hI : I < l.length) (hK : K < l.length) (hc : ¬ Clash d l[I] l[K]) : NoneAhead l d K (I + 1) := fun i k hi hk hik hh => by
  by_cases e : k = K ∧ i = I
  · obtain ⟨rfl, rfl⟩ := e
    exact hc
  · exact h i k hi hk hik (by omega)
theorem NoneAhead.row {l : List Ck} {d : Int} {K : Nat} (h : NoneAhead l d K K) : NoneAhead l d (K + 1) 0 := fun i k hi hk hik hh => h i k hi hk hik (by omega)

abbrev ckc (c : Ck) : Array Value := #[.int .i64 c.life, .int .i64 c.clock, .int .i64 c.lo, .int .i64 c.hi]
theorem keepA {w1 w2 : World} {t : TypeId} {cs ds : Array Value} {p q : Nat} (hb : Below w1.heap.size w1 w2) (hP : Box w1 p t cs) (hQ : Box w1 q t ds) : Box w2 p t cs ∧ Box w2 q t ds := ⟨hP.below hb hP.lt, hQ.below hb hQ.lt⟩

theorem S_of {w : World} {p q : Nat} {t : TypeId} {a b c d x y z u : Int} (hP : Box w p t #[.int .i64 a, .int .i64 b, .int .i64 c, .int .i64 d]) (hQ : Box w q t #[.int .i64 x, .int .i64 y, .int .i64 z, .int .i64 u]) :
    w.cell? ⟨p, 0, none⟩ = some (.int .i64 a) ∧ w.cell? ⟨p, 1, none⟩ = some (.int .i64 b) ∧ w.cell? ⟨p, 2, none⟩ = some (.int .i64 c) ∧ w.cell? ⟨p, 3, none⟩ = some (.int .i64 d) ∧
    w.cell? ⟨q, 1, none⟩ = some (.int .i64 y) ∧ w.cell? ⟨q, 2, none⟩ = some (.int .i64 z) ∧ w.cell? ⟨q, 3, none⟩ = some (.int .i64 u) ∧ Box w p t #[.int .i64 a, .int .i64 b, .int .i64 c, .int .i64 d] ∧ Box w q t #[.int .i64 x, .int .i64 y, .int .i64 z, .int .i64 u] :=
  ⟨hP.at_ rfl, hP.at_ rfl, hP.at_ rfl, hP.at_ rfl, hQ.at_ rfl, hQ.at_ rfl, hQ.at_ rfl, hP, hQ⟩
theorem Box.alloc_ {w : World} {g : Nat} {t : TypeId} {cs : Array Value} (h : Box w g t cs) (o : Obj) : Box (w.alloc o) g t cs := h.below ((Below.refl _ _).alloc (Nat.le_refl _) o) h.lt
theorem Box.set_ {w : World} {g : Nat} {t : TypeId} {cs : Array Value} {a : Addr} {u : Value} (h : Box w g t cs) (hg : g < a.block) : Box (w.setCell a u) g t cs := (heap_setCell_other w a g u (Nat.ne_of_lt hg)).trans h

theorem undrew {B : Nat} {a w : World} (h : Below B a.drew w) : Below B a w := ⟨h.os, h.tape, h.output, h.size, h.block⟩
theorem keepN {w1 w2 : World} {t : TypeId} {cs ds : Array Value} {p q : Nat} (hb : Below (w1.alloc (.cells #[.int .i64 0, .int .i64 0] 53)).heap.size (w1.alloc (.cells #[.int .i64 0, .int .i64 0] 53)) w2) (hP : Box w1 p t cs) (hQ : Box w1 q t ds) :
    Box w2 p t cs ∧ Box w2 q t ds ∧ Two w2 w1.heap.size 0 0 ∧ p < w1.heap.size ∧ q < w1.heap.size :=
  ⟨(hP.alloc_ _).below hb (hP.alloc_ _).lt, (hQ.alloc_ _).below hb (hQ.alloc_ _).lt, (Two.new w1 0 0).below hb (Two.new w1 0 0).lt, hP.lt, hQ.lt⟩

theorem keepM {w0 w2 : World} {o : Obj} {t : TypeId} {cs ds : Array Value} {p q : Nat} (hb : Below ((w0.alloc o).alloc (.cells #[.int .i64 0, .int .i64 0] 53)).heap.size ((w0.alloc o).alloc (.cells #[.int .i64 0, .int .i64 0] 53)) w2) (hP : Box (w0.alloc o) p t cs) (hQ : Box (w0.alloc o) q t ds) :
    Box w2 p t cs ∧ Box w2 q t ds ∧ Two w2 (w0.heap.size + 1) 0 0 ∧ p < w0.heap.size + 1 ∧ q < w0.heap.size + 1 := by
  have h := keepN hb hP hQ
  have e : (w0.alloc o).heap.size = w0.heap.size + 1 := by simp
  rw [e] at h
  exact h

theorem grow_to {wr X wa Y wb : World} (h1 : Below wr.heap.size wr X) (hba : Below X.heap.size X wa) (h2 : Below wa.heap.size wa Y) (hbb : Below Y.heap.size Y wb) : Below wr.heap.size wr wb :=
  h1.trans ((hba.trans ((h2.trans (hbb.mono h2.size)).mono hba.size)).mono h1.size)

def AgreePost (l : List Ck) (d : Int) (w : World) (e : Ending) (w' : World) : Prop := (∃ a b c, e = .returned (.tuple #[.int .i64 a, .int .i64 b, .int .i64 c]) ∧ AgreeIs l d a b c) ∧ Below w.heap.size w w'

set_option maxHeartbeats 2000000 in
theorem agree_any (a : Option Addr) (l : List Ck) (cap : Nat) (d : Int) (w : World) (hl : CksAt w w.heap.size a l) (hm : l.length ≤ cap) (h16 : l.length ≤ 9223372036854775807) :
    Calls Try.prog 20 #[.slice a l.length cap, .int .i64 d] w (AgreePost l d w) := by
  by_cases hE : chk l d = 0
  · obtain ⟨hlen, hd0, hd1, hall⟩ := chk_all l d hE
    go_enter Try.func20, Try.ntmps20
    go_wp2_with fail
    refine (checks_any a l cap d w hl h16).mono ?_
    rintro e w1 ⟨rfl, hb1⟩
    rw [hE]
    have HE := Lib.hid hE
    clear hE
    go_wp2_with fail
    go_loopw [21] (fun i wr => ∃ k : Nat, k ≤ l.length ∧ i = .int .i64 k ∧ NoneAhead l d k 0 ∧ Below w.heap.size w wr) (fun i _ => l.length - (intOf i).toNat)
    case atStart => exact ⟨0, Nat.zero_le _, rfl, NoneAhead.start l d, hb1⟩
    case round =>
      obtain ⟨k, hk, rfl, hN, hb⟩ := hrel
      by_cases hlt : k < l.length
      · obtain ⟨ad, rfl, hlt2, hc⟩ := hl.mono hb (by omega)
        obtain ⟨c0, c1, c2, c3⟩ := hc k hlt
        have z := ckE_zero _ (hall l[k] (List.getElem_mem hlt))
        have hkc : k ≤ cap := by omega
        clear hc
        generalize hT : l[k] = t at *
        have HT := Lib.hid hT
        clear hT
        obtain ⟨li, cl, lo, hi⟩ := t
        simp only at c0 c1 c2 c3 z
        go_wp2_with fail
        obtain ⟨wo, rfl⟩ : ∃ wo : World, wo = wr := ⟨_, rfl⟩
        have hQ : Box (wo.alloc (.cells #[.int .i64 li, .int .i64 cl, .int .i64 lo, .int .i64 hi] 55)) wo.heap.size 55 #[.int .i64 li, .int .i64 cl, .int .i64 lo, .int .i64 hi] := Box.new ..
        have hbo : Below w.heap.size w (wo.alloc (.cells #[.int .i64 li, .int .i64 cl, .int .i64 lo, .int .i64 hi] 55)) := hb.alloc hb.size _
        have hso : wo.heap.size < (wo.alloc (.cells #[.int .i64 li, .int .i64 cl, .int .i64 lo, .int .i64 hi] 55)).heap.size := by simp
        clear c0 c1 c2 c3
        generalize wo.alloc (.cells #[.int .i64 li, .int .i64 cl, .int .i64 lo, .int .i64 hi] 55) = W0 at *
        go_loopw [30] (fun j wr => ∃ i : Nat, i ≤ k ∧ j = .int .i64 i ∧ NoneAhead l d k i ∧ Below W0.heap.size W0 wr) (fun j _ => k - (intOf j).toNat)
        case atStart => exact ⟨0, Nat.zero_le _, rfl, hN, Below.refl _ _⟩
        case round =>
          obtain ⟨i, hik, rfl, hN2, hb2⟩ := hrel
          have hb3 := hbo.trans (hb2.mono hbo.size)
          by_cases hlt3 : i < k
          · obtain ⟨ad', e', _, hc⟩ := hl.mono hb3 (by omega)
            cases e'
            obtain ⟨c0, c1, c2, c3⟩ := hc i (by omega)
            have zc := ckE_zero _ (hall l[i] (List.getElem_mem (by omega)))
            clear hc
            have hQ2 := hQ.below hb2 hso
            generalize hC : l[i] = c at *
            have HC := Lib.hid hC
            clear hC
            obtain ⟨li', cl', lo', hi'⟩ := c
            simp only at c0 c1 c2 c3 zc
            have hQ3 := hQ2.below ((Below.refl wr.heap.size wr).alloc (Nat.le_refl _) (.cells #[.int .i64 li', .int .i64 cl', .int .i64 lo', .int .i64 hi'] 55)) hQ2.lt
            have hP3 := Box.new wr 55 #[.int .i64 li', .int .i64 cl', .int .i64 lo', .int .i64 hi']
            have q0 := hQ3.at_ (i := 0) rfl
            have hqp := hQ2.lt
            by_cases he : li' = li
            · subst he
              go_wp2_with fail
              have hzc0 : wo.heap.size < wr.heap.size + 1 := by omega
              clear q0 c0 c1 c2 c3
              go_region_held3 (fun w' => w'.cell? ⟨wr.heap.size, 0, none⟩ = some (.int .i64 li') ∧ w'.cell? ⟨wr.heap.size, 1, none⟩ = some (.int .i64 cl') ∧ w'.cell? ⟨wr.heap.size, 2, none⟩ = some (.int .i64 lo') ∧ w'.cell? ⟨wr.heap.size, 3, none⟩ = some (.int .i64 hi') ∧ w'.cell? ⟨wo.heap.size, 1, none⟩ = some (.int .i64 cl) ∧ w'.cell? ⟨wo.heap.size, 2, none⟩ = some (.int .i64 lo) ∧ w'.cell? ⟨wo.heap.size, 3, none⟩ = some (.int .i64 hi) ∧ Box w' wr.heap.size 55 #[.int .i64 li', .int .i64 cl', .int .i64 lo', .int .i64 hi'] ∧ Box w' wo.heap.size 55 #[.int .i64 li', .int .i64 cl, .int .i64 lo, .int .i64 hi]) (first | exact S_of hkP hkQ | exact S_of (Box.alloc_ hkP _) (Box.alloc_ hkQ _) | exact S_of hP3 hQ3 | exact S_of (Box.alloc_ hP3 _) (Box.alloc_ hQ3 _) | exact S_of (Box.set_ (Box.set_ hkP hzp) hzp) (Box.set_ (Box.set_ hkQ hzq) hzq) | fail)
                (first | (go_at_call 55; refine (at_any _ _ _ _ _ _ _ (by omega) (by omega) (by omega) (by omega) (by omega) (by omega) (by omega) (by omega) (by omega) (by omega)).mono ?_; rintro e wa ⟨rfl, hba⟩; first | (have hk2 := keepA hba hkP hkQ; have hz2 := hz.below hba hz.lt; obtain ⟨hkP, hkQ⟩ := hk2; have g0 := hz2.c0; have g1 := hz2.c1; have g2 := hz2.free 0; have g3 := hz2.free 1) | (have hk2 := keepA hba hkP hkQ; obtain ⟨hkP, hkQ⟩ := hk2) | (have hk2 := keepN hba hkP hkQ; obtain ⟨hkP, hkQ, hz, hzp, hzq⟩ := hk2; have g0 := hz.c0; have g1 := hz.c1; have g2 := hz.free 0; have g3 := hz.free 1) | (have hk2 := keepA hba hP3 hQ3; obtain ⟨hkP, hkQ⟩ := hk2) | (have hk2 := keepM (undrew hba) hP3 hQ3; obtain ⟨hkP, hkQ, hz, hzp, hzq⟩ := hk2) | fail) | (go_at_call 54; refine (meet_any _ _ _ _ _).mono ?_; rintro e wb ⟨rfl, hbb⟩; first | (have hk2 := keepA hbb hkP hkQ; have hz2 := hz.below hbb hz.lt; obtain ⟨hkP, hkQ⟩ := hk2; have g0 := hz2.c0; have g1 := hz2.c1; have g2 := hz2.free 0; have g3 := hz2.free 1) | (have hk2 := keepA hbb hkP hkQ; obtain ⟨hkP, hkQ⟩ := hk2) | (have hk2 := keepN hbb hkP hkQ; obtain ⟨hkP, hkQ, hz, hzp, hzq⟩ := hk2; have g0 := hz.c0; have g1 := hz.c1; have g2 := hz.free 0; have g3 := hz.free 1) | (have hk2 := keepA hbb hP3 hQ3; obtain ⟨hkP, hkQ⟩ := hk2) | (have hk2 := keepM (undrew hbb) hP3 hQ3; obtain ⟨hkP, hkQ, hz, hzp, hzq⟩ := hk2) | fail))
              all_goals
                have hgt : Below wr.heap.size wr wb := by
                  first
                    | exact grow_to ((Below.refl _ _).alloc (Nat.le_refl _) _).drew hba (Below.refl _ _) hbb
                    | exact grow_to ((Below.refl _ _).alloc (Nat.le_refl _) _).drew hba ((Below.refl _ _).alloc (Nat.le_refl _) _) hbb
                    | exact grow_to (((Below.refl _ _).alloc (Nat.le_refl _) _).alloc (by simp) _).drew hba (Below.refl _ _) hbb
                clear hba hbb
                by_cases hh : min (hi' + (cl - cl') + wrg (cl - cl') d) hi < max (lo' + (cl - cl') - wrg (cl - cl') d) lo
                · go_wp2
                  go_ret3
                  refine ⟨⟨i, k, 0, rfl, .inr (.inr ⟨HE.out, rfl, i, k, by omega, hlt, hlt3, rfl, rfl, ?_, hN2⟩)⟩, ?_⟩
                  · rw [HC.out, HT.out]
                    exact ⟨rfl, hh⟩
                  · first
                      | exact hb3.trans ((hgt.alloc hgt.size _).mono hb3.size)
                      | exact hb3.trans (((hgt.setCell (p := ⟨_, 0, none⟩) (Nat.le_of_lt hzp) _).setCell (p := ⟨_, 1, none⟩) (Nat.le_of_lt hzp) _).mono hb3.size)
                · go_wp2
                  go_roundw
                  case rel =>
                    refine ⟨i + 1, by omega, by go_num, hN2.next (by omega) hlt (by rw [HC.out, HT.out]; exact fun h => absurd h.2 hh), ?_⟩
                    first
                      | exact hb2.trans ((hgt.alloc hgt.size _).mono hb2.size)
                      | exact hb2.trans (((hgt.setCell (p := ⟨_, 0, none⟩) (Nat.le_of_lt hzp) _).setCell (p := ⟨_, 1, none⟩) (Nat.le_of_lt hzp) _).mono hb2.size)
                  case measure => simp [intOf]; omega
            · have hne : (li' != li) = true := by simpa using he
              go_wp2
              go_roundw
              case rel => exact ⟨i + 1, by omega, by go_num, hN2.next (by omega) hlt (by rw [HC.out, HT.out]; exact fun h => he h.1), hb2.alloc hb2.size _⟩
              case measure => simp [intOf]; omega
          · have hkk : i = k := by omega
            subst hkk
            go_wp2
            go_roundw
            case rel => exact ⟨i + 1, by omega, by go_num, hN2.row, hb3⟩
            case measure => simp [intOf]; omega
      · have hkk : k = l.length := by omega
        subst hkk
        go_wp2
        go_ret3
        exact ⟨⟨-1, -1, 0, rfl, .inr (.inl ⟨HE.out, rfl, rfl, rfl, hN⟩)⟩, hb⟩
  · go_enter Try.func20, Try.ntmps20
    go_wp2_with fail
    refine (checks_any a l cap d w hl h16).mono ?_
    rintro e w1 ⟨rfl, hb1⟩
    have HE := Lib.hid hE
    have hq : (chk l d == 0) = false := by simpa using hE
    have hq2 : (chk l d != 0) = true := by simpa using hE
    clear hE
    generalize hqq : chk l d = q at *
    have HQ := Lib.hid hqq
    clear hqq
    go_wp2
    go_ret3
    exact ⟨⟨0, 0, q, rfl, .inl ⟨by rw [HQ.out]; exact HE.out, rfl, rfl, HQ.out.symm⟩⟩, hb1⟩
end Go.Proofs.Ytkdmdoipjhcmgaa
