/- The statements' last words: the examples of the chapter hold. -/
import Derived.Test.YtjahaljdfpengaaSeal
namespace Go.Proofs.Ytjahaljdfpengaa
open Go.RowKit

/-- Two slices with the same bytes. -/
theorem equal_yes (a b : Option Addr) (l : List Nat) (c c' n : Nat) (hn : l.length = n) (w : World) (ha : BytesAt w a l) (hb : BytesAt w b l) (hl : n ≤ 9223372036854775807) :
    Calls Try.prog 82 #[.slice a n c, .slice b n c'] w fun e w' => e = .returned (.bool true) ∧ ∃ q, w.drewN q = w' := by
  have Hn := Lib.hid hn
  have h0 : ¬ (n : Int) ≠ n := by omega
  clear hn
  go_enter Try.func82, Try.ntmps82
  go_wp2
  go_loopw [13] (fun i wr => ∃ k q : Nat, k ≤ n ∧ i = .int .i64 k ∧ wr = w.drewN q) (fun i _ => n - (intOf i).toNat)
  case atStart => exact ⟨0, 0, Nat.zero_le _, rfl, rfl⟩
  case round =>
    obtain ⟨k, q, hk, rfl, rfl⟩ := hrel
    by_cases hlt : k < n
    · obtain ⟨p, rfl, _, hp⟩ := ha.2 (by rw [Hn.out]; omega)
      obtain ⟨r, rfl, _, hr⟩ := hb.2 (by rw [Hn.out]; omega)
      have h1 : w.cell? (p.add k) = some (byt (l.getD k 0)) := hp k (by rw [Hn.out]; omega)
      have h2 : w.cell? (r.add k) = some (byt (l.getD k 0)) := hr k (by rw [Hn.out]; omega)
      clear ha hb hp hr
      generalize l.getD k 0 = x at *
      go_wp2
      go_quiet (fail)
      go_wp2
      go_roundw
      case rel => exact ⟨k + 1, _, by omega, by go_num, rfl⟩
      case measure => simp [intOf]; omega
    · go_wp2
      go_ret
      exact ⟨rfl, q, rfl⟩

theorem th40 (w : World) : (w.alloc (.cells (Array.replicate 40 (.int .u8 0)) 27)).there w.heap.size 0 40 := fun j hj => by
  have h := Box.new w 27 (Array.replicate 40 (.int .u8 0))
  rw [h.at_ (i := 0 + j) (v := .int .u8 0) (by rw [Array.getElem?_replicate, if_pos (by omega)]), h.free]
  exact ⟨rfl, rfl⟩
theorem th40' (w : World) (vs : List Value) (h : vs.length = 40) : (w.alloc (.cells (Array.replicate 40 (.int .u8 0)) 27)).there w.heap.size 0 vs.toArray.size := by
  have e : vs.toArray.size = 40 := by simp [h]
  rw [e]
  exact th40 w
/-- A new block that is filled lies there, and nothing else has turned. -/
theorem new40 (w : World) (vs : List Value) (h : vs.length = 40) :
    ((w.alloc (.cells (Array.replicate 40 (.int .u8 0)) 27)).setCells w.heap.size 0 vs).rangeAt w.heap.size 0 vs ∧
    Below w.heap.size w ((w.alloc (.cells (Array.replicate 40 (.int .u8 0)) 27)).setCells w.heap.size 0 vs) :=
  ⟨World.rangeAt_setCells_same _ _ _ _ (by rw [h]; exact th40 w), Below.setCells' vs 0 ((Below.refl _ _).alloc (Nat.le_refl _) _) (Nat.le_refl _)⟩

def exF : Fr := ⟨1, 2, 3, 4, 5, 0, 0, 0, 0⟩
theorem exF_ok : FrOk exF := ⟨by decide, by decide, by decide, by decide, by decide, by decide, by decide, by decide, by decide⟩
theorem exF_bytes : (block exF).take 10 = [1, 0, 2, 3, 4, 0, 0, 0, 5, 0] := rfl
def exL : List Ck := [⟨0, 1000, 5000, 5010⟩]
theorem exL_time : timeR exL 1000 0 3500 = (7497, 7513, 0) := by decide

theorem after_alloc {X w : World} {o : Obj} (h : Below (X.alloc o).heap.size (X.alloc o) w) : Below X.heap.size X w := ((Below.refl _ _).alloc (Nat.le_refl _) _).trans (h.mono (by simp))
theorem range_below {X w : World} {b o : Nat} {vs : List Value} (h : X.rangeAt b o vs) (hb : Below X.heap.size X w) : w.rangeAt b o vs := fun j v hv => by
  have hlt : b < X.heap.size := block_lt_of_cell (h j v hv)
  rw [← h j v hv]
  exact hb.cell hlt
theorem BytesAt.nil (w : World) : BytesAt w none [] := ⟨fun n hn => (by cases hn), fun h => absurd h (Nat.lt_irrefl 0)⟩
theorem bytes_of_range {w : World} {b : Nat} {vs : List Value} {l : List Nat} (n : Nat) (hr : w.rangeAt b 0 vs) (h : vs.take n = l.map byt) (hl : ∀ x ∈ l, x < 256) (hb : b < w.heap.size) : BytesAt w (some ⟨b, 0, none⟩) l :=
  ⟨hl, fun _ => ⟨_, rfl, hb, fun i hi => by
    rw [Addr.add_mid]
    refine hr i _ ?_
    have e : (vs.take n)[i]? = some (byt (l.getD i 0)) := by rw [h]; simp [List.getD, hi]
    rw [List.getElem?_take] at e
    split at e
    · exact e
    · cases e⟩⟩
theorem bytes_new (w : World) (l : List Nat) (n : Nat) (hn : w.heap.size = n) (hl : ∀ x ∈ l, x < 256) : BytesAt (w.alloc (.cells (l.map byt).toArray 5)) (some ⟨n, 0, none⟩) l := by
  subst hn
  have h := Box.new w 5 (l.map byt).toArray
  refine ⟨hl, fun _ => ⟨_, rfl, by simp, fun i hi => ?_⟩⟩
  rw [Addr.add_mid]
  exact h.at_ (by simp [List.getD, hi])
theorem below_drewN {B : Nat} {a w : World} (h : Below B a w) (n : Nat) : Below B a (w.drewN n) := ⟨h.os, h.tape, h.output, h.size, h.block⟩
theorem exL_at (w : World) : CksAt (w.alloc (.cells #[.int .i64 0, .int .i64 1000, .int .i64 5000, .int .i64 5010] 164)) (w.alloc (.cells #[.int .i64 0, .int .i64 1000, .int .i64 5000, .int .i64 5010] 164)).heap.size (some ⟨w.heap.size, 0, none⟩) exL := fun _ => by
  have h := Box.new w 164 #[.int .i64 0, .int .i64 1000, .int .i64 5000, .int .i64 5010]
  refine ⟨_, rfl, by simp, fun i hi => ?_⟩
  have : i = 0 := by simp [exL] at hi; exact hi
  subst this
  exact ⟨h.at_ (i := 0) rfl, h.at_ (i := 1) rfl, h.at_ (i := 2) rfl, h.at_ (i := 3) rfl⟩

set_option maxHeartbeats 4000000 in
set_option maxRecDepth 100000 in
theorem awake_any (w : World) : Calls Try.prog 18 #[] w fun e w' => e = .returned (.bool true) ∧ Below w.heap.size w w' := by
  go_enter Try.func18, Try.ntmps18
  go_wp2_with fail
  refine (seal_yes exF w exF_ok).mono ?_
  rintro e w1 ⟨rfl, hb1⟩
  have hvl : ((block exF).map byt).length = 40 := by rw [List.length_map, block_len]
  have hv10 : ((block exF).map byt).take 10 = ([1, 0, 2, 3, 4, 0, 0, 0, 5, 0] : List Nat).map byt := by rw [← List.map_take, exF_bytes]
  have hv1 : ∀ v ∈ (block exF).map byt, v.oneCell' = true := by
    intro v hv
    obtain ⟨n, _, rfl⟩ := List.mem_map.1 hv
    rfl
  generalize (block exF).map byt = vs at *
  have hin : (Try.prog.info? 27).map (·.size) = some vs.toArray.size := by rw [List.size_toArray, hvl]; kernel_rfl
  have hall : Array.all vs.toArray (·.oneCell') = true := all_oneCell_toArray hv1
  have Hin := Lib.hid hin
  have Hvl := Lib.hid hvl
  have Hv10 := Lib.hid hv10
  clear hin hvl hv10 hv1
  go_wp2_with (refine wpList_store_mid rfl 27 _ _ rfl w1.heap.size 0 vs.toArray rfl rfl ?c1 Hin.out hall ?_)
  case c1 => exact th40' w1 vs Hvl.out
  obtain ⟨hr1, hb2⟩ := new40 w1 vs Hvl.out
  refine (time_any _ exL 1 1000 0 3500 _ (exL_at _) (by decide)).mono ?_
  rintro e w2 ⟨rfl, hb3⟩
  rw [exL_time]
  have hb4 := after_alloc hb3
  have hb5 : Below w1.heap.size w1 w2 := hb2.trans (hb4.mono hb2.size)
  have hr2 : w2.rangeAt w1.heap.size 0 vs := range_below hr1 hb4
  clear hb3 hb4 hr1 hb2 Hin hall
  have hd0 : dg 11 [] = 11 := rfl
  go_wp2_with fail
  refine (digest_n 11 (by decide) none [] 0 0 rfl _ (BytesAt.nil _) (by decide)).mono ?_
  rintro e w' ⟨rfl, rfl⟩
  rw [hd0]
  clear hd0
  have hs2 : w1.heap.size < w2.heap.size := by
    have h1 : vs[0]? = some (vs[0]'(by rw [Hvl.out]; decide)) := List.getElem?_eq_getElem _
    exact block_lt_of_cell (hr2 0 _ h1)
  go_wp2_with fail
  refine (equal_yes _ _ [1, 0, 2, 3, 4, 0, 0, 0, 5, 0] _ _ 10 rfl _ ?c1 ?c2 (by decide)).mono ?_
  case c1 => exact bytes_of_range 10 (World.rangeAt_alloc (World.rangeAt_alloc hr2 _) _) Hv10.out (by decide) (by simp; omega)
  case c2 => exact bytes_new _ [1, 0, 2, 3, 4, 0, 0, 0, 5, 0] _ (by simp) (by decide)
  rintro e w' ⟨rfl, q, rfl⟩
  clear Hvl Hv10 hr2
  go_wp2
  go_ret
  exact ⟨rfl, (hb1.trans ((below_drewN ((hb5.alloc (Nat.le_of_lt hs2) _).alloc (by simp; omega) _) q).mono hb1.size))⟩
end Go.Proofs.Ytjahaljdfpengaa
