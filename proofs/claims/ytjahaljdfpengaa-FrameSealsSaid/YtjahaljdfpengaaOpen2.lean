/- Blocks: the reference's Values, and the statements' plain: the bits of values in one form. -/
import Derived.Test.YtjahaljdfpengaaOpen1
import Derived.Deep.RegionHeld3
import Derived.Deep.QuietTactic
import Derived.BigQuiet
namespace Go.Proofs.Ytjahaljdfpengaa
open Go.RowKit

def fl32 (n : Nat) : Value := .float .f32 n
def u32 (n : Nat) : Value := .int .u32 (n : Int)
/-- The values of which the first k have one form. -/
def formedTo (l : List Nat) (k : Nat) : List Nat := (l.take k).map vb ++ List.replicate (4 - k) 0
theorem formedTo_set {l : List Nat} (hl : l.length = 4) {k : Nat} (hk : k < 4) : (formedTo l k).set k (vb (l.getD k 0)) = formedTo l (k + 1) := by
  match l, hl with
  | [a, b, c, d], _ =>
    rcases k with _ | _ | _ | _ | k
    · rfl
    · rfl
    · rfl
    · rfl
    · omega
theorem u32_one (l : List Nat) : ∀ v ∈ l.map u32, v.oneCell' = true := fun v hv => by
  obtain ⟨n, _, rfl⟩ := List.mem_map.1 hv
  rfl
theorem u32_set (l : List Nat) (i x : Nat) : (((l.map u32).toArray).setIfInBounds i (u32 x)) = ((l.set i x).map u32).toArray := by simp [List.map_set]
theorem u32_at {l : List Nat} {i : Nat} (h : i < l.length) : (l.map u32).toArray[i]? = some (u32 (l.getD i 0)) := by simp [List.getD, h]
theorem Box.new' (w : World) (n : Nat) (t : TypeId) (cs : Array Value) (h : w.heap.size = n) : Box (w.alloc (.cells cs t)) n t cs := by subst h; exact Box.new w t cs
theorem Box.at' {w : World} {g b i : Nat} {t : TypeId} {cs : Array Value} {v : Value} (h : Box w g t cs) (hne : g ≠ b) : Box (w.setCell ⟨b, i, none⟩ v) g t cs := h.other _ v hne
theorem S9 {w : World} {g : Nat} {t : TypeId} {a b c d e f g' h i : Value} (H : Box w g t #[a, b, c, d, e, f, g', h, i]) : w.cell? ⟨g, 0, none⟩ = some a ∧ w.cell? ⟨g, 1, none⟩ = some b ∧ w.cell? ⟨g, 2, none⟩ = some c ∧ w.cell? ⟨g, 3, none⟩ = some d ∧ w.cell? ⟨g, 4, none⟩ = some e ∧
    w.cell? ⟨g, 5, none⟩ = some f ∧ w.cell? ⟨g, 6, none⟩ = some g' ∧ w.cell? ⟨g, 7, none⟩ = some h ∧ w.cell? ⟨g, 8, none⟩ = some i :=
  ⟨H.at_ rfl, H.at_ rfl, H.at_ rfl, H.at_ rfl, H.at_ rfl, H.at_ rfl, H.at_ rfl, H.at_ rfl, H.at_ rfl⟩
theorem Box.drew' {w : World} {g : Nat} {t : TypeId} {cs : Array Value} (h : Box w g t cs) : Box w.drew g t cs := h
theorem below_drew {B : Nat} {a w : World} (h : Below B a w) : Below B a w.drew := ⟨h.os, h.tape, h.output, h.size, h.block⟩
theorem set_set (cs : Array Value) (i : Nat) (a b : Value) : (cs.setIfInBounds i a).setIfInBounds i b = cs.setIfInBounds i b := by simp
theorem info4 {n : Nat} (h : n = 4) : (Try.prog.info? 35).map (·.size) = some n := by subst h; kernel_rfl
theorem formedTo_len {l : List Nat} (hl : l.length = 4) {k : Nat} (hk : k ≤ 4) : (formedTo l k).length = 4 := by simp [formedTo]; omega
theorem formedTo_all {l : List Nat} (hl : l.length = 4) : formedTo l 4 = l.map vb := by simp [formedTo, List.take_of_length_le (Nat.le_of_eq hl)]

set_option maxRecDepth 100000 in
theorem refValues_any (l : List Nat) (hl : l.length = 4) (hlt : ∀ x ∈ l, x < 4294967296) (w : World) :
    Calls Try.prog 76 #[.agg (l.map fl32).toArray] w fun e w' => e = .returned (.agg ((l.map vb).map u32).toArray) ∧ Below w.heap.size w w' := by
  have hf := fun (b : Nat) (w : World) => fbits b w
  have HF := Lib.hid hf
  clear hf
  have hB := Box.new w 23 (l.map fl32).toArray
  have HL := Lib.hid hl
  have HA := Lib.hid (formedTo_all hl)
  have hv4 : (l.map fl32).length = 4 := by rw [List.length_map, hl]
  clear hl
  generalize hvs : l.map fl32 = vs at *
  have HVS := Lib.hid hvs
  clear hvs
  go_enter Try.func76, Try.ntmps76
  go_wp2
  go_loopw [4] (fun x wr => ∃ k : Nat, k ≤ 4 ∧ x = .int .i64 k ∧ Box wr w.heap.size 23 vs.toArray ∧ Box wr (w.heap.size + 1) 35 #[.int .u32 0, .int .u32 0, .int .u32 0, .int .u32 0] ∧ Box wr (w.heap.size + 2) 35 ((formedTo l k).map u32).toArray ∧ Below w.heap.size w wr) (fun x _ => 4 - (intOf x).toNat)
  case atStart =>
    refine ⟨0, Nat.zero_le _, rfl, ?_, ?_, Box.new' _ _ _ _ (by simp), (((Below.refl _ _).alloc (Nat.le_refl _) _).alloc (by simp) _).alloc (by simp; omega) _⟩
    · exact hB.below (((Below.refl _ _).alloc (Nat.le_refl _) _).alloc (by simp) _) (by simp)
    · exact (Box.new' _ _ _ _ (by simp)).below ((Below.refl _ _).alloc (Nat.le_refl _) _) (by simp)
  case round =>
    obtain ⟨k, hk, rfl, hb0, hb1, hb2, hb⟩ := hrel
    by_cases hlt2 : k < 4
    · have hkl : k < l.length := by rw [HL.out]; exact hlt2
      have c0 : wr.cell? ⟨w.heap.size, k, none⟩ = some (.float .f32 (l.getD k 0)) := hb0.at_ (by rw [← HVS.out]; simp [List.getD, hkl, fl32])
      have hx : l.getD k 0 < 4294967296 := hlt _ (by rw [List.getD, List.getElem?_eq_getElem hkl]; simp)
      have hpl : (formedTo l k).length = 4 := formedTo_len HL.out (by omega)
      have c1 : wr.cell? ⟨w.heap.size + 2, k, none⟩ = some (u32 ((formedTo l k).getD k 0)) := hb2.at_ (u32_at (by omega))
      have c2 := hb2.free k
      have HS := Lib.hid (formedTo_set HL.out hlt2)
      have HB0 := Lib.hid hb0
      have HB1 := Lib.hid hb1
      have HB2 := Lib.hid hb2
      have HP := Lib.hid hpl
      clear hb0 hb1 hb2 hpl
      generalize l.getD k 0 = x at *
      have hf := fun (w : World) => HF.out x w
      cases hn : nanB x with
      | true =>
        have HV : Hid (vb x = 2143289344) := Lib.hid (by rw [vb_eq, hn]; rfl)
        have HN := Lib.hid hn
        clear hn
        go_wp2_with fail
        refine (nan_any x hx _).mono ?_
        rintro e w' ⟨rfl, rfl⟩
        rw [HN.out]
        go_wp2_with fail
        go_roundw
        case rel =>
          refine ⟨k + 1, by omega, by go_num, (HB0.out.at' (by omega)).at' (by omega), (HB1.out.at' (by omega)).at' (by omega), ?_, (hb.setCell (p := ⟨w.heap.size + 2, k, none⟩) (by simp) _).setCell (p := ⟨w.heap.size + 2, k, none⟩) (by simp) _⟩
          rw [← HS.out, HV.out, ← u32_set]
          have := (HB2.out.set (i := k) (u32 x)).set (i := k) (u32 2143289344)
          rwa [set_set] at this
        case measure => simp [intOf]; omega
      | false =>
        have HV : Hid (vb x = x) := Lib.hid (by rw [vb_eq, hn]; rfl)
        have HN := Lib.hid hn
        clear hn
        go_wp2_with fail
        refine (nan_any x hx _).mono ?_
        rintro e w' ⟨rfl, rfl⟩
        rw [HN.out]
        go_wp2_with fail
        go_roundw
        case rel =>
          refine ⟨k + 1, by omega, by go_num, HB0.out.at' (by omega), HB1.out.at' (by omega), ?_, hb.setCell (p := ⟨w.heap.size + 2, k, none⟩) (by simp) _⟩
          rw [← HS.out, HV.out, ← u32_set]
          exact HB2.out.set (i := k) (u32 x)
        case measure => simp [intOf]; omega
    · obtain rfl : k = 4 := by omega
      have hpl : (formedTo l 4).length = 4 := formedTo_len HL.out (by omega)
      have hin := info4 (n := ((formedTo l 4).map u32).length) (by rw [List.length_map, hpl])
      have hsz : (#[Value.int .u32 0, Value.int .u32 0, Value.int .u32 0, Value.int .u32 0] : Array Value).size = ((formedTo l 4).map u32).length := by rw [List.length_map, hpl]; rfl
      rw [HA.out] at hb2 hin hsz
      have Hsz := Lib.hid hsz
      have Hin := Lib.hid hin
      clear hin hpl hsz
      go_wp2_with (first | (refine wpList_box_load rfl 35 _ rfl (w.heap.size + 2) rfl _ _ _ hb2 Try.underlying35 rfl Hin.out ?_) | (refine wpList_box_store rfl 35 _ _ rfl (w.heap.size + 1) rfl _ rfl _ _ hb1 Hsz.out Hin.out (u32_one _) ?_; intro X hX))
      exact bodyPost_ret (v := .agg ((l.map vb).map u32).toArray) (results_cell Try.results76 _ _ _ _ rfl (box_load _ hX.box Try.underlying35 rfl Hin.out)) rfl ⟨rfl, hb.trans (hX.below _ (by omega))⟩

abbrev Fr.ref (f : Fr) : Value := .agg #[.int .i64 f.st, .int .i64 f.lo, .int .i64 f.li, .int .i64 f.nu, .int .i64 f.cl, .int .u32 f.v0, .int .u32 f.v1, .int .u32 f.v2, .int .u32 f.v3]

theorem fill9 {w : World} {g : Nat} {t : TypeId} {x0 x1 x2 x3 x4 x5 x6 x7 x8 : Value} (h : Box w g t #[x0, x1, x2, x3, x4, x5, x6, x7, x8]) (b0 b1 b2 b3 b4 b5 b6 b7 b8 : Value) :
    Box (((((((((w.setCell ⟨g, 0, none⟩ b0).setCell ⟨g, 1, none⟩ b1).setCell ⟨g, 2, none⟩ b2).setCell ⟨g, 3, none⟩ b3).setCell ⟨g, 4, none⟩ b4).setCell ⟨g, 5, none⟩ b5).setCell ⟨g, 6, none⟩ b6).setCell ⟨g, 7, none⟩ b7).setCell ⟨g, 8, none⟩ b8) g t #[b0, b1, b2, b3, b4, b5, b6, b7, b8] ∧ ∀ B, B ≤ g → Below B w (((((((((w.setCell ⟨g, 0, none⟩ b0).setCell ⟨g, 1, none⟩ b1).setCell ⟨g, 2, none⟩ b2).setCell ⟨g, 3, none⟩ b3).setCell ⟨g, 4, none⟩ b4).setCell ⟨g, 5, none⟩ b5).setCell ⟨g, 6, none⟩ b6).setCell ⟨g, 7, none⟩ b7).setCell ⟨g, 8, none⟩ b8) := by
  have := (((((((((h.set (i := 0) b0).set (i := 1) b1).set (i := 2) b2).set (i := 3) b3).set (i := 4) b4).set (i := 5) b5).set (i := 6) b6).set (i := 7) b7).set (i := 8) b8)
  exact ⟨by simpa using this, fun B hB => ((((((((((Below.refl _ _).setCell (p := ⟨g, 0, none⟩) hB b0).setCell (p := ⟨g, 1, none⟩) hB b1).setCell (p := ⟨g, 2, none⟩) hB b2).setCell (p := ⟨g, 3, none⟩) hB b3).setCell (p := ⟨g, 4, none⟩) hB b4).setCell (p := ⟨g, 5, none⟩) hB b5).setCell (p := ⟨g, 6, none⟩) hB b6).setCell (p := ⟨g, 7, none⟩) hB b7).setCell (p := ⟨g, 8, none⟩) hB b8)⟩
set_option maxHeartbeats 2000000 in
set_option maxRecDepth 100000 in
theorem plain_any (st lo li nu cl : Int) (v0 v1 v2 v3 : Nat) (h0 : v0 < 4294967296) (h1 : v1 < 4294967296) (h2 : v2 < 4294967296) (h3 : v3 < 4294967296) (w : World) :
    Calls Try.prog 15 #[.agg #[.int .i64 st, .int .i64 lo, .int .i64 li, .int .i64 nu, .int .i64 cl, .float .f32 v0, .float .f32 v1, .float .f32 v2, .float .f32 v3]] w fun e w' =>
      e = .returned (.agg #[.int .i64 st, .int .i64 lo, .int .i64 li, .int .i64 nu, .int .i64 cl, .int .u32 (vb v0 : Int), .int .u32 (vb v1 : Int), .int .u32 (vb v2 : Int), .int .u32 (vb v3 : Int)]) ∧ Below w.heap.size w w' := by
  have hV := fun (W : World) => refValues_any [v0, v1, v2, v3] rfl (by simp; omega) W
  simp only [List.map_cons, List.map_nil, fl32, u32] at hV
  go_enter Try.func15, Try.ntmps15
  go_wp2
  have hX : Box ((w.alloc (.cells #[.int .i64 st, .int .i64 lo, .int .i64 li, .int .i64 nu, .int .i64 cl, .float .f32 v0, .float .f32 v1, .float .f32 v2, .float .f32 v3] 25)).alloc (.cells #[.int .i64 0, .int .i64 0, .int .i64 0, .int .i64 0, .int .i64 0, .int .u32 0, .int .u32 0, .int .u32 0, .int .u32 0] 37)) w.heap.size 25 #[.int .i64 st, .int .i64 lo, .int .i64 li, .int .i64 nu, .int .i64 cl, .float .f32 v0, .float .f32 v1, .float .f32 v2, .float .f32 v3] :=
    (Box.new w _ _).below ((Below.refl _ _).alloc (Nat.le_refl _) _) (by simp)
  have hR : Box ((w.alloc (.cells #[.int .i64 st, .int .i64 lo, .int .i64 li, .int .i64 nu, .int .i64 cl, .float .f32 v0, .float .f32 v1, .float .f32 v2, .float .f32 v3] 25)).alloc (.cells #[.int .i64 0, .int .i64 0, .int .i64 0, .int .i64 0, .int .i64 0, .int .u32 0, .int .u32 0, .int .u32 0, .int .u32 0] 37)) (w.heap.size + 1) 37 #[.int .i64 0, .int .i64 0, .int .i64 0, .int .i64 0, .int .i64 0, .int .u32 0, .int .u32 0, .int .u32 0, .int .u32 0] := Box.new' _ _ _ _ (by simp)
  have hb : Below w.heap.size w ((w.alloc (.cells #[.int .i64 st, .int .i64 lo, .int .i64 li, .int .i64 nu, .int .i64 cl, .float .f32 v0, .float .f32 v1, .float .f32 v2, .float .f32 v3] 25)).alloc (.cells #[.int .i64 0, .int .i64 0, .int .i64 0, .int .i64 0, .int .i64 0, .int .u32 0, .int .u32 0, .int .u32 0, .int .u32 0] 37)) := ((Below.refl _ _).alloc (Nat.le_refl _) _).alloc (by simp) _
  generalize ((w.alloc (.cells #[.int .i64 st, .int .i64 lo, .int .i64 li, .int .i64 nu, .int .i64 cl, .float .f32 v0, .float .f32 v1, .float .f32 v2, .float .f32 v3] 25)).alloc (.cells #[.int .i64 0, .int .i64 0, .int .i64 0, .int .i64 0, .int .i64 0, .int .u32 0, .int .u32 0, .int .u32 0, .int .u32 0] 37)) = w1 at *
  go_region_held3 (fun w' => w'.cell? ⟨w.heap.size, 0, none⟩ = some (.int .i64 st) ∧ w'.cell? ⟨w.heap.size, 1, none⟩ = some (.int .i64 lo) ∧ w'.cell? ⟨w.heap.size, 2, none⟩ = some (.int .i64 li) ∧ w'.cell? ⟨w.heap.size, 3, none⟩ = some (.int .i64 nu) ∧ w'.cell? ⟨w.heap.size, 4, none⟩ = some (.int .i64 cl) ∧
      w'.cell? ⟨w.heap.size, 5, none⟩ = some (.float .f32 v0) ∧ w'.cell? ⟨w.heap.size, 6, none⟩ = some (.float .f32 v1) ∧ w'.cell? ⟨w.heap.size, 7, none⟩ = some (.float .f32 v2) ∧ w'.cell? ⟨w.heap.size, 8, none⟩ = some (.float .f32 v3))
    (first | (with_reducible exact S9 hkB) | (with_reducible exact S9 hX.drew') | (with_reducible exact S9 ((((((((((hkB.at' (b := w.heap.size + 1) (by omega)).at' (b := w.heap.size + 1) (by omega)).at' (b := w.heap.size + 1) (by omega)).at' (b := w.heap.size + 1) (by omega)).at' (b := w.heap.size + 1) (by omega)).at' (b := w.heap.size + 1) (by omega)).at' (b := w.heap.size + 1) (by omega)).at' (b := w.heap.size + 1) (by omega)).at' (b := w.heap.size + 1) (by omega)))) | fail)
    (first | (go_at_call 76; refine (hV _).mono ?_; rintro e wa ⟨rfl, hba⟩; have hkB := hX.drew'.below hba hX.lt; have hkR := hR.drew'.below hba hR.lt; have g0 := hkR.at_ (i := 0) rfl; have f0 := hkR.free 0; have g1 := hkR.at_ (i := 1) rfl; have f1 := hkR.free 1; have g2 := hkR.at_ (i := 2) rfl; have f2 := hkR.free 2; have g3 := hkR.at_ (i := 3) rfl; have f3 := hkR.free 3; have g4 := hkR.at_ (i := 4) rfl; have f4 := hkR.free 4; have g5 := hkR.at_ (i := 5) rfl; have f5 := hkR.free 5; have g6 := hkR.at_ (i := 6) rfl; have f6 := hkR.free 6; have g7 := hkR.at_ (i := 7) rfl; have f7 := hkR.free 7; have g8 := hkR.at_ (i := 8) rfl; have f8 := hkR.free 8) | fail)
  obtain ⟨h9, hE9⟩ := fill9 hkR (.int .i64 st) (.int .i64 lo) (.int .i64 li) (.int .i64 nu) (.int .i64 cl) (.int .u32 (vb v0 : Int)) (.int .u32 (vb v1 : Int)) (.int .u32 (vb v2 : Int)) (.int .u32 (vb v3 : Int))
  have hE := ((below_drew hb).trans (hba.mono hb.size)).trans (hE9 w.heap.size (by omega))
  go_wp2
  exact bodyPost_ret (v := .agg #[.int .i64 st, .int .i64 lo, .int .i64 li, .int .i64 nu, .int .i64 cl, .int .u32 (vb v0 : Int), .int .u32 (vb v1 : Int), .int .u32 (vb v2 : Int), .int .u32 (vb v3 : Int)]) (results_cell Try.results15 _ _ _ _ rfl (box_load (vs := [.int .i64 st, .int .i64 lo, .int .i64 li, .int .i64 nu, .int .i64 cl, .int .u32 (vb v0 : Int), .int .u32 (vb v1 : Int), .int .u32 (vb v2 : Int), .int .u32 (vb v3 : Int)]) _ h9 Try.underlying37 rfl (by kernel_rfl))) rfl ⟨rfl, hE⟩
end Go.Proofs.Ytjahaljdfpengaa
