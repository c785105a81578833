/- Clocks: the program's functions of frame/clock.go. -/
import Derived.Test.YtjahaljdfpengaaDig
import Derived.WalkKit
import Derived.WalkSpells
import Derived.WalkLawsBesides
import Derived.Handy
import Derived.BigQuiet
import Derived.Deep.QuietTactic
import Derived.Deep.RegionWith
import Derived.Deep.CutRange
import Derived.StillTailTactics
import Derived.Outline
import Derived.Lib.Hide
import Derived.Deep.DeepFit
namespace Go.Proofs.Ytjahaljdfpengaa
open Go.RowKit

theorem upTo_yes (n m : Int) (w : World) (h0 : 0 ≤ n) (h1 : n ≤ m) : Calls Try.prog 69 #[.int .i64 n, .int .i64 m] w fun e w' => e = .returned (.bool true) ∧ w = w' := by
  go_enter Try.func69, Try.ntmps69
  go_wp2
  go_ret
  exact ⟨rfl, rfl⟩
theorem upTo_no (n m : Int) (w : World) (h : ¬ (0 ≤ n ∧ n ≤ m)) : Calls Try.prog 69 #[.int .i64 n, .int .i64 m] w fun e w' => e = .returned (.bool false) ∧ w = w' := by
  by_cases h0 : 0 ≤ n
  · have h1 : m < n := by omega
    have hd : decide (n ≤ m) = false := by simpa using h1
    go_enter Try.func69, Try.ntmps69
    go_wp2
    go_ret
    exact ⟨rfl, rfl⟩
  · go_enter Try.func69, Try.ntmps69
    go_wp2
    go_ret
    exact ⟨rfl, rfl⟩

/-- A range as a value. -/
abbrev rg (a b : Int) : Value := .agg #[.int .i64 a, .int .i64 b]

theorem meet_any (a b c d : Int) (w : World) :
    Calls Try.prog 126 #[rg a b, rg c d] w fun e w' => e = .returned (rg (max a c) (min b d)) ∧ Below w.heap.size w w' := by
  go_enter Try.func126, Try.ntmps126
  go_wp2
  all_goals
    refine bodyPost_ret (v := rg (max a c) (min b d)) (by simp [results, Try.results126, go_sem, rg]; omega) rfl ⟨rfl, ?_⟩
    exact (((Below.refl _ _).alloc (Nat.le_refl _) _).alloc (by simp) _).alloc (by simp; omega) _

/-- A check as a value. -/
abbrev ckV (life clock lo hi : Int) : Value := .agg #[.int .i64 life, .int .i64 clock, .int .i64 lo, .int .i64 hi]
/-- How wrong a clock can be. -/
def wrg (p d : Int) : Int := (max p (-p) * d + 999999) / 1000000

theorem at_any (life c lo hi clock drift : Int) (w : World) (h1 : 0 ≤ c) (h2 : c ≤ 1099511627776) (h3 : 0 ≤ lo) (h4 : lo ≤ 1099511627776) (h5 : 0 ≤ hi) (h6 : hi ≤ 1099511627776)
    (h7 : 0 ≤ clock) (h8 : clock ≤ 1099511627776) (h9 : 0 ≤ drift) (h10 : drift ≤ 100000) :
    Calls Try.prog 127 #[ckV life c lo hi, .int .i64 clock, .int .i64 drift] w fun e w' =>
      e = .returned (rg (lo + (clock - c) - wrg (clock - c) drift) (hi + (clock - c) + wrg (clock - c) drift)) ∧ Below w.heap.size w w' := by
  by_cases hp : c ≤ clock
  · have e0 : wrg (clock - c) drift = ((clock - c) * drift + 1000000 - 1) / 1000000 := by unfold wrg; rw [show max (clock - c) (-(clock - c)) = clock - c by omega]; congr 1; omega
    have m0 : 0 ≤ (clock - c) * drift := Int.mul_nonneg (by omega) h9
    have m1 : (clock - c) * drift ≤ 1099511627776 * 100000 := Int.mul_le_mul (by omega) h10 h9 (by omega)
    rw [e0]
    clear e0
    go_enter Try.func127, Try.ntmps127
    go_wp2
    refine bodyPost_ret (v := rg (lo + (clock - c) - ((clock - c) * drift + 1000000 - 1) / 1000000) (hi + (clock - c) + ((clock - c) * drift + 1000000 - 1) / 1000000)) (by simp [results, Try.results127, go_sem, rg]) rfl ⟨rfl, ?_⟩
    exact ((Below.refl _ _).alloc (Nat.le_refl _) _).alloc (by simp) _
  · have e0 : wrg (clock - c) drift = (-(clock - c) * drift + 1000000 - 1) / 1000000 := by unfold wrg; rw [show max (clock - c) (-(clock - c)) = -(clock - c) by omega]; congr 1; omega
    have m0 : 0 ≤ -(clock - c) * drift := Int.mul_nonneg (by omega) h9
    have m1 : -(clock - c) * drift ≤ 1099511627776 * 100000 := Int.mul_le_mul (by omega) h10 h9 (by omega)
    rw [e0]
    clear e0
    go_enter Try.func127, Try.ntmps127
    go_wp2
    refine bodyPost_ret (v := rg (lo + (clock - c) - (-(clock - c) * drift + 1000000 - 1) / 1000000) (hi + (clock - c) + (-(clock - c) * drift + 1000000 - 1) / 1000000)) (by simp [results, Try.results127, go_sem, rg]) rfl ⟨rfl, ?_⟩
    exact ((Below.refl _ _).alloc (Nat.le_refl _) _).alloc (by simp) _

/-- A check. -/
structure Ck where
  life : Int
  clock : Int
  lo : Int
  hi : Int
/-- The error of a check. -/
def ckE (c : Ck) : Int :=
  if ¬ ((0 ≤ c.life ∧ c.life ≤ 255) ∧ 0 ≤ c.clock ∧ c.clock ≤ 1099511627776) then 1
  else if ¬ ((0 ≤ c.lo ∧ c.lo ≤ 1099511627776) ∧ 0 ≤ c.hi ∧ c.hi ≤ 1099511627776) then 1
  else if c.hi < c.lo then 7 else 0
def ckErr : List Ck → Int
  | [] => 0
  | c :: l => if ckE c = 0 then ckErr l else ckE c
def chk (l : List Ck) (d : Int) : Int := if 16 < l.length then 4 else if ¬ (0 ≤ d ∧ d ≤ 100000) then 1 else ckErr l
/-- A check lies in memory at an address. -/
structure CkAt (w : World) (p : Addr) (c : Ck) : Prop where
  life : w.cell? p = some (.int .i64 c.life)
  clock : w.cell? ⟨p.block, p.off + 1, none⟩ = some (.int .i64 c.clock)
  lo : w.cell? ⟨p.block, p.off + 2, none⟩ = some (.int .i64 c.lo)
  hi : w.cell? ⟨p.block, p.off + 3, none⟩ = some (.int .i64 c.hi)
/-- The checks lie in memory, below block B. -/
def CksAt (w : World) (B : Nat) (a : Option Addr) (l : List Ck) : Prop :=
  0 < l.length → ∃ ad, a = some ad ∧ ad.block < B ∧ ∀ i (h : i < l.length), CkAt w (ad.add (i * 4)) l[i]

theorem add_block (a : Addr) (n : Nat) : (a.add n).block = a.block := by unfold Addr.add; split <;> rfl
theorem CkAt.mono {w w' : World} {B : Nat} {p : Addr} {c : Ck} (h : CkAt w p c) (hb : Below B w w') (hp : p.block < B) : CkAt w' p c :=
  ⟨(hb.cell hp).trans h.life, (hb.cell (p := ⟨p.block, p.off + 1, none⟩) hp).trans h.clock, (hb.cell (p := ⟨p.block, p.off + 2, none⟩) hp).trans h.lo, (hb.cell (p := ⟨p.block, p.off + 3, none⟩) hp).trans h.hi⟩
theorem CksAt.mono {w w' : World} {B : Nat} {a : Option Addr} {l : List Ck} (h : CksAt w B a l) (hb : Below B w w') : CksAt w' B a l := fun hl => by
  obtain ⟨ad, e, hlt, hc⟩ := h hl
  exact ⟨ad, e, hlt, fun i hi => (hc i hi).mono hb (by rw [add_block]; exact hlt)⟩

theorem CksAt.more {w : World} {B B' : Nat} {a : Option Addr} {l : List Ck} (h : CksAt w B a l) (hB : B ≤ B') : CksAt w B' a l := fun hl => by
  obtain ⟨ad, e, hlt, hc⟩ := h hl
  exact ⟨ad, e, Nat.lt_of_lt_of_le hlt hB, hc⟩

theorem ckErr_append (l m : List Ck) (h : ckErr l = 0) : ckErr (l ++ m) = ckErr m := by
  induction l with
  | nil => rfl
  | cons c l ih =>
    unfold ckErr at h
    split at h
    · rename_i hc; simp only [List.cons_append, ckErr, if_pos hc]; exact ih h
    · contradiction
theorem ckErr_take (l : List Ck) (k : Nat) (hk : k < l.length) (h : ckErr (l.take k) = 0) : ckErr l = if ckE l[k] = 0 then ckErr (l.drop (k + 1)) else ckE l[k] := by
  have e2 : l.drop k = l[k] :: l.drop (k + 1) := List.drop_eq_getElem_cons hk
  have e3 : ckErr l = ckErr (l.drop k) := by
    have := ckErr_append (l.take k) (l.drop k) h
    rwa [List.take_append_drop] at this
  rw [e3, e2]
  rfl

theorem ckErr_snoc (l : List Ck) (k : Nat) (hk : k < l.length) (h : ckErr (l.take k) = 0) : ckErr (l.take (k + 1)) = ckE l[k] := by
  rw [List.take_succ_eq_append_getElem hk, ckErr_append _ _ h]
  unfold ckErr
  split
  · rename_i hc; rw [hc]; rfl
  · rfl

theorem checks_any (a : Option Addr) (l : List Ck) (cap : Nat) (d : Int) (w : World) (hl : CksAt w w.heap.size a l) (hm : l.length ≤ 9223372036854775807) :
    Calls Try.prog 125 #[.slice a l.length cap, .int .i64 d] w fun e w' => e = .returned (.int .i64 (chk l d)) ∧ Below w.heap.size w w' := by
  by_cases h16 : 16 < l.length
  · have e0 : chk l d = 4 := by unfold chk; rw [if_pos h16]
    rw [e0]
    clear e0
    go_enter Try.func125, Try.ntmps125
    go_wp2
    go_ret
    exact ⟨rfl, Below.refl _ _⟩
  · by_cases hd : 0 ≤ d ∧ d ≤ 100000
    · have e0 : chk l d = ckErr l := by unfold chk; rw [if_neg h16, if_neg (by omega)]
      rw [e0]
      clear e0
      go_enter Try.func125, Try.ntmps125
      go_wp2_with fail
      refine (upTo_yes _ _ _ (by omega) (by omega)).mono ?_
      rintro e w' ⟨rfl, rfl⟩
      go_wp2
      go_loopw [15, 6] (fun i _ wr => ∃ k : Nat, k ≤ l.length ∧ i = .int .i64 k ∧ Hid (ckErr (l.take k) = 0) ∧ Below w.heap.size w wr) (fun i _ _ => l.length - (intOf i).toNat)
      case atStart => exact ⟨0, Nat.zero_le _, rfl, Lib.hid rfl, Below.refl _ _⟩
      case round =>
        obtain ⟨k, hk, rfl, hE, hb⟩ := hrel
        by_cases hlt : k < l.length
        · obtain ⟨ad, rfl, hlt2, hc⟩ := (hl.mono hb) (by omega)
          obtain ⟨c0, c1, c2, c3⟩ := hc k hlt
          have hT := Lib.hid (ckErr_take l k hlt hE.out)
          have hS := Lib.hid (ckErr_snoc l k hlt hE.out)
          clear hc hE hl
          generalize l[k] = c at *
          obtain ⟨li, cl, lo, hi⟩ := c
          simp only at c0 c1 c2 c3
          by_cases hA : 0 ≤ li ∧ li ≤ 255
          · by_cases hB : 0 ≤ cl ∧ cl ≤ 1099511627776
            · by_cases hC : 0 ≤ lo ∧ lo ≤ 1099511627776
              · by_cases hD : 0 ≤ hi ∧ hi ≤ 1099511627776
                · by_cases hF : hi < lo
                  · go_wp2_with fail
                    refine (upTo_yes _ _ _ (by omega) (by omega)).mono ?_
                    rintro e w' ⟨rfl, rfl⟩
                    go_wp2_with fail
                    refine (upTo_yes _ _ _ (by omega) (by omega)).mono ?_
                    rintro e w' ⟨rfl, rfl⟩
                    go_wp2_with fail
                    refine (upTo_yes _ _ _ (by omega) (by omega)).mono ?_
                    rintro e w' ⟨rfl, rfl⟩
                    go_wp2_with fail
                    refine (upTo_yes _ _ _ (by omega) (by omega)).mono ?_
                    rintro e w' ⟨rfl, rfl⟩
                    go_wp2
                    go_ret
                    exact ⟨ret_int (by rw [hT.out, show ckE ⟨li, cl, lo, hi⟩ = 7 by unfold ckE; rw [if_neg (by simp only; omega), if_neg (by simp only; omega), if_pos hF]]; rfl), hb.alloc hb.size _⟩
                  · go_wp2_with fail
                    refine (upTo_yes _ _ _ (by omega) (by omega)).mono ?_
                    rintro e w' ⟨rfl, rfl⟩
                    go_wp2_with fail
                    refine (upTo_yes _ _ _ (by omega) (by omega)).mono ?_
                    rintro e w' ⟨rfl, rfl⟩
                    go_wp2_with fail
                    refine (upTo_yes _ _ _ (by omega) (by omega)).mono ?_
                    rintro e w' ⟨rfl, rfl⟩
                    go_wp2_with fail
                    refine (upTo_yes _ _ _ (by omega) (by omega)).mono ?_
                    rintro e w' ⟨rfl, rfl⟩
                    go_wp2
                    go_roundw
                    case rel => exact ⟨k + 1, by omega, by go_num, Lib.hid (by rw [hS.out]; unfold ckE; rw [if_neg (by simp only; omega), if_neg (by simp only; omega), if_neg (by simp only; omega)]), hb.alloc hb.size _⟩
                    case measure => simp [intOf]; omega
                · go_wp2_with fail
                  refine (upTo_yes _ _ _ (by omega) (by omega)).mono ?_
                  rintro e w' ⟨rfl, rfl⟩
                  go_wp2_with fail
                  refine (upTo_yes _ _ _ (by omega) (by omega)).mono ?_
                  rintro e w' ⟨rfl, rfl⟩
                  go_wp2_with fail
                  refine (upTo_yes _ _ _ (by omega) (by omega)).mono ?_
                  rintro e w' ⟨rfl, rfl⟩
                  go_wp2_with fail
                  refine (upTo_no _ _ _ (by omega)).mono ?_
                  rintro e w' ⟨rfl, rfl⟩
                  go_wp2
                  go_ret
                  exact ⟨ret_int (by rw [hT.out, show ckE ⟨li, cl, lo, hi⟩ = 1 by unfold ckE; rw [if_neg (by simp only; omega), if_pos (by simp only; omega)]]; rfl), hb.alloc hb.size _⟩
              · go_wp2_with fail
                refine (upTo_yes _ _ _ (by omega) (by omega)).mono ?_
                rintro e w' ⟨rfl, rfl⟩
                go_wp2_with fail
                refine (upTo_yes _ _ _ (by omega) (by omega)).mono ?_
                rintro e w' ⟨rfl, rfl⟩
                go_wp2_with fail
                refine (upTo_no _ _ _ (by omega)).mono ?_
                rintro e w' ⟨rfl, rfl⟩
                go_wp2
                go_ret
                exact ⟨ret_int (by rw [hT.out, show ckE ⟨li, cl, lo, hi⟩ = 1 by unfold ckE; rw [if_neg (by simp only; omega), if_pos (by simp only; omega)]]; rfl), hb.alloc hb.size _⟩
            · go_wp2_with fail
              refine (upTo_yes _ _ _ (by omega) (by omega)).mono ?_
              rintro e w' ⟨rfl, rfl⟩
              go_wp2_with fail
              refine (upTo_no _ _ _ (by omega)).mono ?_
              rintro e w' ⟨rfl, rfl⟩
              go_wp2
              go_ret
              exact ⟨ret_int (by rw [hT.out, show ckE ⟨li, cl, lo, hi⟩ = 1 by unfold ckE; rw [if_pos (by simp only; omega)]]; rfl), hb.alloc hb.size _⟩
          · go_wp2_with fail
            refine (upTo_no _ _ _ (by omega)).mono ?_
            rintro e w' ⟨rfl, rfl⟩
            go_wp2
            go_ret
            exact ⟨ret_int (by rw [hT.out, show ckE ⟨li, cl, lo, hi⟩ = 1 by unfold ckE; rw [if_pos (by simp only; omega)]]; rfl), hb.alloc hb.size _⟩
        · have hk' : k = l.length := by omega
          have hE' := hE.out
          rw [List.take_of_length_le (by omega)] at hE'
          have H := Lib.hid hE'
          clear hE' hE
          go_wp2
          go_ret
          exact ⟨ret_int H.out.symm, hb⟩
    · have e0 : chk l d = 1 := by unfold chk; rw [if_neg h16, if_pos hd]
      rw [e0]
      clear e0
      go_enter Try.func125, Try.ntmps125
      go_wp2_with fail
      refine (upTo_no _ _ _ hd).mono ?_
      rintro e w' ⟨rfl, rfl⟩
      go_wp2
      go_ret
      exact ⟨rfl, Below.refl _ _⟩
end Go.Proofs.Ytjahaljdfpengaa
