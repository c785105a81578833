/- Blocks: the reference's Seal of a frame with an error. -/
import Derived.Test.YtjahaljdfpengaaRseal
namespace Go.Proofs.Ytjahaljdfpengaa
open Go.RowKit
theorem base7 (C : Array Value) (w W : World) (h : W = (((w.alloc (.cells C 37)).alloc (.cells (Array.replicate 40 (.int .u8 0)) 31)).alloc (.cells (Array.replicate 40 (.int .u8 0)) 31))) :
    Hid (Box W (w.heap.size + 1) 31 z40.toArray) ∧ Hid (Box W (w.heap.size + 2) 31 z40.toArray) ∧ Below w.heap.size w W := by
  subst h
  have e : z40.toArray = Array.replicate 40 (.int .u8 0) := rfl
  rw [e]
  refine ⟨Lib.hid ?_, Lib.hid ?_, (((Below.refl _ _).alloc (Nat.le_refl _) _).alloc (by simp) _).alloc (by simp; omega) _⟩
  · exact (Box.new' _ _ _ _ (by simp)).below ((Below.refl _ _).alloc (Nat.le_refl _) _) (by simp)
  · exact Box.new' _ _ _ _ (by simp)
theorem z40_infoR : (Try.prog.info? 31).map (·.size) = some z40.length := infoR z40_len

set_option maxHeartbeats 2000000 in
set_option maxRecDepth 100000 in
theorem refSeal_no (st lo li nu cl : Int) (v0 v1 v2 v3 : Nat) (w : World) (h : ¬ (KeyOk st lo li nu ∧ 0 ≤ cl ∧ cl ≤ 1099511627776)) :
    Calls Try.prog 14 #[.agg #[.int .i64 st, .int .i64 lo, .int .i64 li, .int .i64 nu, .int .i64 cl, .int .u32 v0, .int .u32 v1, .int .u32 v2, .int .u32 v3]] w fun e w' => e = .returned (.tuple #[.agg z40.toArray, .int .i64 1]) ∧ Below w.heap.size w w' := by
  by_cases c0 : 0 ≤ st ∧ st ≤ 65535
  · by_cases c1 : 0 ≤ lo ∧ lo ≤ 255
    · by_cases c2 : 0 ≤ li ∧ li ≤ 255
      · by_cases c3 : 0 ≤ nu ∧ nu ≤ 4294967295
        · have c4 : ¬ (0 ≤ cl ∧ cl ≤ 1099511627776) := fun c4 => h ⟨⟨c0, c1, c2, c3⟩, c4⟩
          clear h
          go_enter Try.func14, Try.ntmps14
          go_wp2_with fail
          refine (within_yes _ _ _ c0.1 c0.2).mono ?_
          rintro e w' ⟨rfl, rfl⟩
          go_wp2_with fail
          refine (within_yes _ _ _ c1.1 c1.2).mono ?_
          rintro e w' ⟨rfl, rfl⟩
          go_wp2_with fail
          refine (within_yes _ _ _ c2.1 c2.2).mono ?_
          rintro e w' ⟨rfl, rfl⟩
          go_wp2_with fail
          refine (within_yes _ _ _ c3.1 c3.2).mono ?_
          rintro e w' ⟨rfl, rfl⟩
          go_wp2_with fail
          refine (within_no _ _ _ c4).mono ?_
          rintro e w' ⟨rfl, rfl⟩
          obtain ⟨R0, B0, hb0⟩ := base7 #[.int .i64 st, .int .i64 lo, .int .i64 li, .int .i64 nu, .int .i64 cl, .int .u32 v0, .int .u32 v1, .int .u32 v2, .int .u32 v3] w (((w.alloc (.cells #[.int .i64 st, .int .i64 lo, .int .i64 li, .int .i64 nu, .int .i64 cl, .int .u32 v0, .int .u32 v1, .int .u32 v2, .int .u32 v3] 37)).alloc (.cells #[.int .u8 0, .int .u8 0, .int .u8 0, .int .u8 0, .int .u8 0, .int .u8 0, .int .u8 0, .int .u8 0, .int .u8 0, .int .u8 0, .int .u8 0, .int .u8 0, .int .u8 0, .int .u8 0, .int .u8 0, .int .u8 0, .int .u8 0, .int .u8 0, .int .u8 0, .int .u8 0, .int .u8 0, .int .u8 0, .int .u8 0, .int .u8 0, .int .u8 0, .int .u8 0, .int .u8 0, .int .u8 0, .int .u8 0, .int .u8 0, .int .u8 0, .int .u8 0, .int .u8 0, .int .u8 0, .int .u8 0, .int .u8 0, .int .u8 0, .int .u8 0, .int .u8 0, .int .u8 0] 31)).alloc (.cells #[.int .u8 0, .int .u8 0, .int .u8 0, .int .u8 0, .int .u8 0, .int .u8 0, .int .u8 0, .int .u8 0, .int .u8 0, .int .u8 0, .int .u8 0, .int .u8 0, .int .u8 0, .int .u8 0, .int .u8 0, .int .u8 0, .int .u8 0, .int .u8 0, .int .u8 0, .int .u8 0, .int .u8 0, .int .u8 0, .int .u8 0, .int .u8 0, .int .u8 0, .int .u8 0, .int .u8 0, .int .u8 0, .int .u8 0, .int .u8 0, .int .u8 0, .int .u8 0, .int .u8 0, .int .u8 0, .int .u8 0, .int .u8 0, .int .u8 0, .int .u8 0, .int .u8 0, .int .u8 0] 31)) rfl
          generalize (((w.alloc (.cells #[.int .i64 st, .int .i64 lo, .int .i64 li, .int .i64 nu, .int .i64 cl, .int .u32 v0, .int .u32 v1, .int .u32 v2, .int .u32 v3] 37)).alloc (.cells #[.int .u8 0, .int .u8 0, .int .u8 0, .int .u8 0, .int .u8 0, .int .u8 0, .int .u8 0, .int .u8 0, .int .u8 0, .int .u8 0, .int .u8 0, .int .u8 0, .int .u8 0, .int .u8 0, .int .u8 0, .int .u8 0, .int .u8 0, .int .u8 0, .int .u8 0, .int .u8 0, .int .u8 0, .int .u8 0, .int .u8 0, .int .u8 0, .int .u8 0, .int .u8 0, .int .u8 0, .int .u8 0, .int .u8 0, .int .u8 0, .int .u8 0, .int .u8 0, .int .u8 0, .int .u8 0, .int .u8 0, .int .u8 0, .int .u8 0, .int .u8 0, .int .u8 0, .int .u8 0] 31)).alloc (.cells #[.int .u8 0, .int .u8 0, .int .u8 0, .int .u8 0, .int .u8 0, .int .u8 0, .int .u8 0, .int .u8 0, .int .u8 0, .int .u8 0, .int .u8 0, .int .u8 0, .int .u8 0, .int .u8 0, .int .u8 0, .int .u8 0, .int .u8 0, .int .u8 0, .int .u8 0, .int .u8 0, .int .u8 0, .int .u8 0, .int .u8 0, .int .u8 0, .int .u8 0, .int .u8 0, .int .u8 0, .int .u8 0, .int .u8 0, .int .u8 0, .int .u8 0, .int .u8 0, .int .u8 0, .int .u8 0, .int .u8 0, .int .u8 0, .int .u8 0, .int .u8 0, .int .u8 0, .int .u8 0] 31)) = W0 at *
          go_wp2_with (first | (refine wpList_box_load rfl 31 _ rfl (w.heap.size + 2) rfl _ z40 _ B0.out Try.underlying31 rfl z40_infoR ?_) | (refine wpList_box_store rfl 31 _ _ rfl (w.heap.size + 1) rfl z40 rfl _ _ R0.out rfl z40_infoR z40_one ?_; intro X hX))
          exact bodyPost_ret (v := .tuple #[.agg z40.toArray, .int .i64 1]) (results_cell_slot Try.results14 _ _ _ _ rfl (box_load _ hX.box Try.underlying31 rfl z40_infoR)) rfl ⟨rfl, hb0.trans (hX.below _ (by omega))⟩
        · clear h
          go_enter Try.func14, Try.ntmps14
          go_wp2_with fail
          refine (within_yes _ _ _ c0.1 c0.2).mono ?_
          rintro e w' ⟨rfl, rfl⟩
          go_wp2_with fail
          refine (within_yes _ _ _ c1.1 c1.2).mono ?_
          rintro e w' ⟨rfl, rfl⟩
          go_wp2_with fail
          refine (within_yes _ _ _ c2.1 c2.2).mono ?_
          rintro e w' ⟨rfl, rfl⟩
          go_wp2_with fail
          refine (within_no _ _ _ c3).mono ?_
          rintro e w' ⟨rfl, rfl⟩
          obtain ⟨R0, B0, hb0⟩ := base7 #[.int .i64 st, .int .i64 lo, .int .i64 li, .int .i64 nu, .int .i64 cl, .int .u32 v0, .int .u32 v1, .int .u32 v2, .int .u32 v3] w (((w.alloc (.cells #[.int .i64 st, .int .i64 lo, .int .i64 li, .int .i64 nu, .int .i64 cl, .int .u32 v0, .int .u32 v1, .int .u32 v2, .int .u32 v3] 37)).alloc (.cells #[.int .u8 0, .int .u8 0, .int .u8 0, .int .u8 0, .int .u8 0, .int .u8 0, .int .u8 0, .int .u8 0, .int .u8 0, .int .u8 0, .int .u8 0, .int .u8 0, .int .u8 0, .int .u8 0, .int .u8 0, .int .u8 0, .int .u8 0, .int .u8 0, .int .u8 0, .int .u8 0, .int .u8 0, .int .u8 0, .int .u8 0, .int .u8 0, .int .u8 0, .int .u8 0, .int .u8 0, .int .u8 0, .int .u8 0, .int .u8 0, .int .u8 0, .int .u8 0, .int .u8 0, .int .u8 0, .int .u8 0, .int .u8 0, .int .u8 0, .int .u8 0, .int .u8 0, .int .u8 0] 31)).alloc (.cells #[.int .u8 0, .int .u8 0, .int .u8 0, .int .u8 0, .int .u8 0, .int .u8 0, .int .u8 0, .int .u8 0, .int .u8 0, .int .u8 0, .int .u8 0, .int .u8 0, .int .u8 0, .int .u8 0, .int .u8 0, .int .u8 0, .int .u8 0, .int .u8 0, .int .u8 0, .int .u8 0, .int .u8 0, .int .u8 0, .int .u8 0, .int .u8 0, .int .u8 0, .int .u8 0, .int .u8 0, .int .u8 0, .int .u8 0, .int .u8 0, .int .u8 0, .int .u8 0, .int .u8 0, .int .u8 0, .int .u8 0, .int .u8 0, .int .u8 0, .int .u8 0, .int .u8 0, .int .u8 0] 31)) rfl
          generalize (((w.alloc (.cells #[.int .i64 st, .int .i64 lo, .int .i64 li, .int .i64 nu, .int .i64 cl, .int .u32 v0, .int .u32 v1, .int .u32 v2, .int .u32 v3] 37)).alloc (.cells #[.int .u8 0, .int .u8 0, .int .u8 0, .int .u8 0, .int .u8 0, .int .u8 0, .int .u8 0, .int .u8 0, .int .u8 0, .int .u8 0, .int .u8 0, .int .u8 0, .int .u8 0, .int .u8 0, .int .u8 0, .int .u8 0, .int .u8 0, .int .u8 0, .int .u8 0, .int .u8 0, .int .u8 0, .int .u8 0, .int .u8 0, .int .u8 0, .int .u8 0, .int .u8 0, .int .u8 0, .int .u8 0, .int .u8 0, .int .u8 0, .int .u8 0, .int .u8 0, .int .u8 0, .int .u8 0, .int .u8 0, .int .u8 0, .int .u8 0, .int .u8 0, .int .u8 0, .int .u8 0] 31)).alloc (.cells #[.int .u8 0, .int .u8 0, .int .u8 0, .int .u8 0, .int .u8 0, .int .u8 0, .int .u8 0, .int .u8 0, .int .u8 0, .int .u8 0, .int .u8 0, .int .u8 0, .int .u8 0, .int .u8 0, .int .u8 0, .int .u8 0, .int .u8 0, .int .u8 0, .int .u8 0, .int .u8 0, .int .u8 0, .int .u8 0, .int .u8 0, .int .u8 0, .int .u8 0, .int .u8 0, .int .u8 0, .int .u8 0, .int .u8 0, .int .u8 0, .int .u8 0, .int .u8 0, .int .u8 0, .int .u8 0, .int .u8 0, .int .u8 0, .int .u8 0, .int .u8 0, .int .u8 0, .int .u8 0] 31)) = W0 at *
          go_wp2_with (first | (refine wpList_box_load rfl 31 _ rfl (w.heap.size + 2) rfl _ z40 _ B0.out Try.underlying31 rfl z40_infoR ?_) | (refine wpList_box_store rfl 31 _ _ rfl (w.heap.size + 1) rfl z40 rfl _ _ R0.out rfl z40_infoR z40_one ?_; intro X hX))
          exact bodyPost_ret (v := .tuple #[.agg z40.toArray, .int .i64 1]) (results_cell_slot Try.results14 _ _ _ _ rfl (box_load _ hX.box Try.underlying31 rfl z40_infoR)) rfl ⟨rfl, hb0.trans (hX.below _ (by omega))⟩
      · clear h
        go_enter Try.func14, Try.ntmps14
        go_wp2_with fail
        refine (within_yes _ _ _ c0.1 c0.2).mono ?_
        rintro e w' ⟨rfl, rfl⟩
        go_wp2_with fail
        refine (within_yes _ _ _ c1.1 c1.2).mono ?_
        rintro e w' ⟨rfl, rfl⟩
        go_wp2_with fail
        refine (within_no _ _ _ c2).mono ?_
        rintro e w' ⟨rfl, rfl⟩
        obtain ⟨R0, B0, hb0⟩ := base7 #[.int .i64 st, .int .i64 lo, .int .i64 li, .int .i64 nu, .int .i64 cl, .int .u32 v0, .int .u32 v1, .int .u32 v2, .int .u32 v3] w (((w.alloc (.cells #[.int .i64 st, .int .i64 lo, .int .i64 li, .int .i64 nu, .int .i64 cl, .int .u32 v0, .int .u32 v1, .int .u32 v2, .int .u32 v3] 37)).alloc (.cells #[.int .u8 0, .int .u8 0, .int .u8 0, .int .u8 0, .int .u8 0, .int .u8 0, .int .u8 0, .int .u8 0, .int .u8 0, .int .u8 0, .int .u8 0, .int .u8 0, .int .u8 0, .int .u8 0, .int .u8 0, .int .u8 0, .int .u8 0, .int .u8 0, .int .u8 0, .int .u8 0, .int .u8 0, .int .u8 0, .int .u8 0, .int .u8 0, .int .u8 0, .int .u8 0, .int .u8 0, .int .u8 0, .int .u8 0, .int .u8 0, .int .u8 0, .int .u8 0, .int .u8 0, .int .u8 0, .int .u8 0, .int .u8 0, .int .u8 0, .int .u8 0, .int .u8 0, .int .u8 0] 31)).alloc (.cells #[.int .u8 0, .int .u8 0, .int .u8 0, .int .u8 0, .int .u8 0, .int .u8 0, .int .u8 0, .int .u8 0, .int .u8 0, .int .u8 0, .int .u8 0, .int .u8 0, .int .u8 0, .int .u8 0, .int .u8 0, .int .u8 0, .int .u8 0, .int .u8 0, .int .u8 0, .int .u8 0, .int .u8 0, .int .u8 0, .int .u8 0, .int .u8 0, .int .u8 0, .int .u8 0, .int .u8 0, .int .u8 0, .int .u8 0, .int .u8 0, .int .u8 0, .int .u8 0, .int .u8 0, .int .u8 0, .int .u8 0, .int .u8 0, .int .u8 0, .int .u8 0, .int .u8 0, .int .u8 0] 31)) rfl
        generalize (((w.alloc (.cells #[.int .i64 st, .int .i64 lo, .int .i64 li, .int .i64 nu, .int .i64 cl, .int .u32 v0, .int .u32 v1, .int .u32 v2, .int .u32 v3] 37)).alloc (.cells #[.int .u8 0, .int .u8 0, .int .u8 0, .int .u8 0, .int .u8 0, .int .u8 0, .int .u8 0, .int .u8 0, .int .u8 0, .int .u8 0, .int .u8 0, .int .u8 0, .int .u8 0, .int .u8 0, .int .u8 0, .int .u8 0, .int .u8 0, .int .u8 0, .int .u8 0, .int .u8 0, .int .u8 0, .int .u8 0, .int .u8 0, .int .u8 0, .int .u8 0, .int .u8 0, .int .u8 0, .int .u8 0, .int .u8 0, .int .u8 0, .int .u8 0, .int .u8 0, .int .u8 0, .int .u8 0, .int .u8 0, .int .u8 0, .int .u8 0, .int .u8 0, .int .u8 0, .int .u8 0] 31)).alloc (.cells #[.int .u8 0, .int .u8 0, .int .u8 0, .int .u8 0, .int .u8 0, .int .u8 0, .int .u8 0, .int .u8 0, .int .u8 0, .int .u8 0, .int .u8 0, .int .u8 0, .int .u8 0, .int .u8 0, .int .u8 0, .int .u8 0, .int .u8 0, .int .u8 0, .int .u8 0, .int .u8 0, .int .u8 0, .int .u8 0, .int .u8 0, .int .u8 0, .int .u8 0, .int .u8 0, .int .u8 0, .int .u8 0, .int .u8 0, .int .u8 0, .int .u8 0, .int .u8 0, .int .u8 0, .int .u8 0, .int .u8 0, .int .u8 0, .int .u8 0, .int .u8 0, .int .u8 0, .int .u8 0] 31)) = W0 at *
        go_wp2_with (first | (refine wpList_box_load rfl 31 _ rfl (w.heap.size + 2) rfl _ z40 _ B0.out Try.underlying31 rfl z40_infoR ?_) | (refine wpList_box_store rfl 31 _ _ rfl (w.heap.size + 1) rfl z40 rfl _ _ R0.out rfl z40_infoR z40_one ?_; intro X hX))
        exact bodyPost_ret (v := .tuple #[.agg z40.toArray, .int .i64 1]) (results_cell_slot Try.results14 _ _ _ _ rfl (box_load _ hX.box Try.underlying31 rfl z40_infoR)) rfl ⟨rfl, hb0.trans (hX.below _ (by omega))⟩
    · clear h
      go_enter Try.func14, Try.ntmps14
      go_wp2_with fail
      refine (within_yes _ _ _ c0.1 c0.2).mono ?_
      rintro e w' ⟨rfl, rfl⟩
      go_wp2_with fail
      refine (within_no _ _ _ c1).mono ?_
      rintro e w' ⟨rfl, rfl⟩
      obtain ⟨R0, B0, hb0⟩ := base7 #[.int .i64 st, .int .i64 lo, .int .i64 li, .int .i64 nu, .int .i64 cl, .int .u32 v0, .int .u32 v1, .int .u32 v2, .int .u32 v3] w (((w.alloc (.cells #[.int .i64 st, .int .i64 lo, .int .i64 li, .int .i64 nu, .int .i64 cl, .int .u32 v0, .int .u32 v1, .int .u32 v2, .int .u32 v3] 37)).alloc (.cells #[.int .u8 0, .int .u8 0, .int .u8 0, .int .u8 0, .int .u8 0, .int .u8 0, .int .u8 0, .int .u8 0, .int .u8 0, .int .u8 0, .int .u8 0, .int .u8 0, .int .u8 0, .int .u8 0, .int .u8 0, .int .u8 0, .int .u8 0, .int .u8 0, .int .u8 0, .int .u8 0, .int .u8 0, .int .u8 0, .int .u8 0, .int .u8 0, .int .u8 0, .int .u8 0, .int .u8 0, .int .u8 0, .int .u8 0, .int .u8 0, .int .u8 0, .int .u8 0, .int .u8 0, .int .u8 0, .int .u8 0, .int .u8 0, .int .u8 0, .int .u8 0, .int .u8 0, .int .u8 0] 31)).alloc (.cells #[.int .u8 0, .int .u8 0, .int .u8 0, .int .u8 0, .int .u8 0, .int .u8 0, .int .u8 0, .int .u8 0, .int .u8 0, .int .u8 0, .int .u8 0, .int .u8 0, .int .u8 0, .int .u8 0, .int .u8 0, .int .u8 0, .int .u8 0, .int .u8 0, .int .u8 0, .int .u8 0, .int .u8 0, .int .u8 0, .int .u8 0, .int .u8 0, .int .u8 0, .int .u8 0, .int .u8 0, .int .u8 0, .int .u8 0, .int .u8 0, .int .u8 0, .int .u8 0, .int .u8 0, .int .u8 0, .int .u8 0, .int .u8 0, .int .u8 0, .int .u8 0, .int .u8 0, .int .u8 0] 31)) rfl
      generalize (((w.alloc (.cells #[.int .i64 st, .int .i64 lo, .int .i64 li, .int .i64 nu, .int .i64 cl, .int .u32 v0, .int .u32 v1, .int .u32 v2, .int .u32 v3] 37)).alloc (.cells #[.int .u8 0, .int .u8 0, .int .u8 0, .int .u8 0, .int .u8 0, .int .u8 0, .int .u8 0, .int .u8 0, .int .u8 0, .int .u8 0, .int .u8 0, .int .u8 0, .int .u8 0, .int .u8 0, .int .u8 0, .int .u8 0, .int .u8 0, .int .u8 0, .int .u8 0, .int .u8 0, .int .u8 0, .int .u8 0, .int .u8 0, .int .u8 0, .int .u8 0, .int .u8 0, .int .u8 0, .int .u8 0, .int .u8 0, .int .u8 0, .int .u8 0, .int .u8 0, .int .u8 0, .int .u8 0, .int .u8 0, .int .u8 0, .int .u8 0, .int .u8 0, .int .u8 0, .int .u8 0] 31)).alloc (.cells #[.int .u8 0, .int .u8 0, .int .u8 0, .int .u8 0, .int .u8 0, .int .u8 0, .int .u8 0, .int .u8 0, .int .u8 0, .int .u8 0, .int .u8 0, .int .u8 0, .int .u8 0, .int .u8 0, .int .u8 0, .int .u8 0, .int .u8 0, .int .u8 0, .int .u8 0, .int .u8 0, .int .u8 0, .int .u8 0, .int .u8 0, .int .u8 0, .int .u8 0, .int .u8 0, .int .u8 0, .int .u8 0, .int .u8 0, .int .u8 0, .int .u8 0, .int .u8 0, .int .u8 0, .int .u8 0, .int .u8 0, .int .u8 0, .int .u8 0, .int .u8 0, .int .u8 0, .int .u8 0] 31)) = W0 at *
      go_wp2_with (first | (refine wpList_box_load rfl 31 _ rfl (w.heap.size + 2) rfl _ z40 _ B0.out Try.underlying31 rfl z40_infoR ?_) | (refine wpList_box_store rfl 31 _ _ rfl (w.heap.size + 1) rfl z40 rfl _ _ R0.out rfl z40_infoR z40_one ?_; intro X hX))
      exact bodyPost_ret (v := .tuple #[.agg z40.toArray, .int .i64 1]) (results_cell_slot Try.results14 _ _ _ _ rfl (box_load _ hX.box Try.underlying31 rfl z40_infoR)) rfl ⟨rfl, hb0.trans (hX.below _ (by omega))⟩
  · clear h
    go_enter Try.func14, Try.ntmps14
    go_wp2_with fail
    refine (within_no _ _ _ c0).mono ?_
    rintro e w' ⟨rfl, rfl⟩
    obtain ⟨R0, B0, hb0⟩ := base7 #[.int .i64 st, .int .i64 lo, .int .i64 li, .int .i64 nu, .int .i64 cl, .int .u32 v0, .int .u32 v1, .int .u32 v2, .int .u32 v3] w (((w.alloc (.cells #[.int .i64 st, .int .i64 lo, .int .i64 li, .int .i64 nu, .int .i64 cl, .int .u32 v0, .int .u32 v1, .int .u32 v2, .int .u32 v3] 37)).alloc (.cells #[.int .u8 0, .int .u8 0, .int .u8 0, .int .u8 0, .int .u8 0, .int .u8 0, .int .u8 0, .int .u8 0, .int .u8 0, .int .u8 0, .int .u8 0, .int .u8 0, .int .u8 0, .int .u8 0, .int .u8 0, .int .u8 0, .int .u8 0, .int .u8 0, .int .u8 0, .int .u8 0, .int .u8 0, .int .u8 0, .int .u8 0, .int .u8 0, .int .u8 0, .int .u8 0, .int .u8 0, .int .u8 0, .int .u8 0, .int .u8 0, .int .u8 0, .int .u8 0, .int .u8 0, .int .u8 0, .int .u8 0, .int .u8 0, .int .u8 0, .int .u8 0, .int .u8 0, .int .u8 0] 31)).alloc (.cells #[.int .u8 0, .int .u8 0, .int .u8 0, .int .u8 0, .int .u8 0, .int .u8 0, .int .u8 0, .int .u8 0, .int .u8 0, .int .u8 0, .int .u8 0, .int .u8 0, .int .u8 0, .int .u8 0, .int .u8 0, .int .u8 0, .int .u8 0, .int .u8 0, .int .u8 0, .int .u8 0, .int .u8 0, .int .u8 0, .int .u8 0, .int .u8 0, .int .u8 0, .int .u8 0, .int .u8 0, .int .u8 0, .int .u8 0, .int .u8 0, .int .u8 0, .int .u8 0, .int .u8 0, .int .u8 0, .int .u8 0, .int .u8 0, .int .u8 0, .int .u8 0, .int .u8 0, .int .u8 0] 31)) rfl
    generalize (((w.alloc (.cells #[.int .i64 st, .int .i64 lo, .int .i64 li, .int .i64 nu, .int .i64 cl, .int .u32 v0, .int .u32 v1, .int .u32 v2, .int .u32 v3] 37)).alloc (.cells #[.int .u8 0, .int .u8 0, .int .u8 0, .int .u8 0, .int .u8 0, .int .u8 0, .int .u8 0, .int .u8 0, .int .u8 0, .int .u8 0, .int .u8 0, .int .u8 0, .int .u8 0, .int .u8 0, .int .u8 0, .int .u8 0, .int .u8 0, .int .u8 0, .int .u8 0, .int .u8 0, .int .u8 0, .int .u8 0, .int .u8 0, .int .u8 0, .int .u8 0, .int .u8 0, .int .u8 0, .int .u8 0, .int .u8 0, .int .u8 0, .int .u8 0, .int .u8 0, .int .u8 0, .int .u8 0, .int .u8 0, .int .u8 0, .int .u8 0, .int .u8 0, .int .u8 0, .int .u8 0] 31)).alloc (.cells #[.int .u8 0, .int .u8 0, .int .u8 0, .int .u8 0, .int .u8 0, .int .u8 0, .int .u8 0, .int .u8 0, .int .u8 0, .int .u8 0, .int .u8 0, .int .u8 0, .int .u8 0, .int .u8 0, .int .u8 0, .int .u8 0, .int .u8 0, .int .u8 0, .int .u8 0, .int .u8 0, .int .u8 0, .int .u8 0, .int .u8 0, .int .u8 0, .int .u8 0, .int .u8 0, .int .u8 0, .int .u8 0, .int .u8 0, .int .u8 0, .int .u8 0, .int .u8 0, .int .u8 0, .int .u8 0, .int .u8 0, .int .u8 0, .int .u8 0, .int .u8 0, .int .u8 0, .int .u8 0] 31)) = W0 at *
    go_wp2_with (first | (refine wpList_box_load rfl 31 _ rfl (w.heap.size + 2) rfl _ z40 _ B0.out Try.underlying31 rfl z40_infoR ?_) | (refine wpList_box_store rfl 31 _ _ rfl (w.heap.size + 1) rfl z40 rfl _ _ R0.out rfl z40_infoR z40_one ?_; intro X hX))
    exact bodyPost_ret (v := .tuple #[.agg z40.toArray, .int .i64 1]) (results_cell_slot Try.results14 _ _ _ _ rfl (box_load _ hX.box Try.underlying31 rfl z40_infoR)) rfl ⟨rfl, hb0.trans (hX.below _ (by omega))⟩
end Go.Proofs.Ytjahaljdfpengaa
