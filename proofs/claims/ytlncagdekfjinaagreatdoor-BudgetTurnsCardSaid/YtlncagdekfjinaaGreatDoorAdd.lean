/- (limbs).add, (limbs).sub, and the built-in copy into a new row. -/
import Derived.Test.YtlncagdekfjinaaGreatDoorGain
import Derived.Test.YtlncagdekfjinaaGreatDoorClone
import Derived.Laws.IdiomCopy
namespace Go.Proofs.YtlncagdekfjinaaGreatDoor
open Go.RowKit Go.Sort Dg
theorem setCells_row (w : World) (b off n Y : Nat) : ∀ k i, i + k ≤ n →
    (rowW w b off n (Y % B ^ i)).setCells b (off + i) ((List.range' i k).map fun j => u64 (dig Y j)) = rowW w b off n (Y % B ^ (i + k))
  | 0, i, _ => rfl
  | k + 1, i, h => by
    rw [List.range'_succ, List.map_cons, World.setCells, rowW_set (by omega) (dig_lt _ _), put_mod_dig, Nat.add_assoc off, setCells_row w b off n Y k (i + 1) (by omega)]
    rw [show i + 1 + k = i + (k + 1) by omega]
theorem copy_run (ty : TypeId) (b off n c : Nat) (a : Option Addr) (m cap Y : Nat) (M : World) (hr : Row M b off n 0) (h : DigsAt M a m cap Y) (hmn : m ≤ n) :
    (Builtin.copy_ #[95, 95] ty #[.slice (some ⟨b, off, none⟩) n c, .slice a m cap]).run Tryz.prog M = .ok (goInt m) (rowW M b off n Y) := by
  have hu : Tryz.prog.underlying 95 = some (.slice 167) := Tryz.underlying95
  have hs : (Tryz.prog.info? 167).map (·.size) = some 1 := by kernel_rfl
  by_cases hm : m = 0
  · subst hm
    have hY : Y = 0 := by have := h.lt; simp at this; exact this
    subst hY
    rw [hr.self]
    exact run_copy_none M _ _ ty 167 _ _ _ _ _ _ hu hs (Nat.zero_min _)
  · obtain ⟨b2, o2, rfl, hb, hc⟩ := h.cells hm
    have hrun := run_copy_cells (P := Tryz.prog) M 95 95 ty 167 b off n c ⟨b2, o2, none⟩ m cap (vals m Y) hu hs (by rw [vals_length]; exact (Nat.min_eq_left hmn).symm)
      (by
        intro j v hj
        obtain ⟨hj', rfl⟩ := vals_get hj
        have e : (⟨b2, o2, none⟩ : Addr).add j = ⟨b2, o2 + j, none⟩ := by unfold Addr.add; split <;> simp_all
        rw [e]; exact hc j hj')
      (by
        intro j hj
        rw [vals_length] at hj
        rw [(hr j (by simp; omega)).1]; rfl)
      (by
        intro j hj
        rw [vals_length] at hj
        exact (hr j (by simp; omega)).2)
      (by intro u hu; obtain ⟨j, hj⟩ := List.getElem?_of_mem hu; obtain ⟨_, rfl⟩ := vals_get hj; rfl)
    have e : M.setCells b off (vals m Y) = rowW M b off n Y := by
      have := setCells_row M b off n Y m 0 (by omega)
      rw [Nat.pow_zero, Nat.mod_one, hr.self, Nat.add_zero, Nat.zero_add, Nat.mod_eq_of_lt h.lt] at this
      rw [← this]
      unfold vals
      rw [List.range_eq_range']
    rw [hrun, vals_length, e]
theorem rowW_rowW (w : World) (b off n u v : Nat) : rowW (rowW w b off n u) b off n v = rowW w b off n v := putRow_putRow _ _ _ _ _ _ (by simp)
theorem add_any (a b : Option Addr) (ca cb x y : Nat) (w : World) (hx : DigsAt w a (nl x) ca x) (hy : DigsAt w b (nl y) cb y) (hnx : nl x ≤ 68719476736) (hny : nl y ≤ 68719476736) :
    Calls Tryz.prog 176 #[.slice a (nl x) ca, .slice b (nl y) cb] w (Gives w (x + y)) := by
  by_cases hlt : nl x < nl y
  · rw [Nat.add_comm x y]
    have hk : nl x ≤ nl y := by omega
    have hle := nl_add_le y x
    have hmax : max (nl y) (nl x) = nl y := by omega
    obtain ⟨k, hkk⟩ : ∃ k, nl y + 1 = k := ⟨_, rfl⟩
    have hXk : y < B ^ k := Nat.lt_of_lt_of_le (lt_nl y) (Nat.pow_le_pow_right B_pos (by omega))
    have hsum : y + x < B ^ k := Nat.lt_of_lt_of_le (lt_nl _) (Nat.pow_le_pow_right B_pos (by omega))
    have hmk := fun w => mk_run ((nl y : Int) + 1) k (by omega) (by omega) w
    have hr := mk_row w k
    have hcp := fun ty => copy_run ty w.heap.size 0 k k b (nl y) cb y (mk w k) hr (hy.mono (mk_below w k)) (by omega)
    have hbel : Below w.heap.size w (rowW (mk w k) w.heap.size 0 k y) := rowW_below (mk_below _ _) (Nat.le_refl _)
    have hsep : ∀ c, a = some c → nl x ≠ 0 → c.block ≠ w.heap.size := by
      intro c hc h0
      obtain ⟨b2, o2, e, hb2, _⟩ := hx.cells h0
      rw [e] at hc; cases hc; exact Nat.ne_of_lt hb2
    have hbel2 : Below w.heap.size w (rowW (mk w k) w.heap.size 0 k (y + x)) := rowW_below (mk_below _ _) (Nat.le_refl _)
    have hd : DigsAt (rowW (mk w k) w.heap.size 0 k (y + x)) (some ⟨w.heap.size, 0, none⟩) k k (y + x) := (hr.row (y + x)).digs hsum (by rw [rowW_size, mk_size]; omega) (Nat.le_refl _)
    have hk3 : k ≤ 68719476737 := by omega
    have hkn : nl x ≤ k := by omega
    have HM := Lib.hid hmax
    clear hkk hmax hle
    have hrr := hr.row y
    have HSEP := Lib.hid hsep
    have HW := Lib.hid (rowW_rowW (mk w k) w.heap.size 0 k y (y + x))
    clear hsep
    go_enter Tryz.func176, Tryz.ntmps176
    go_wp2_with (first | (go_at_call 203; refine (gain_any _ 0 k k y a (nl x) ca x _ hrr hXk (by omega) (hx.mono hbel) HSEP.out hkn hsum).mono ?_; rintro e w' ⟨rfl, rfl⟩; rw [HW.out]) | (go_at_call 175; refine (trim_any _ k k (y + x) _ hd (by omega)).mono ?_; rintro e w' ⟨rfl, rfl⟩))
    go_ret
    exact ⟨_, _, rfl, hd.shrink, hbel2⟩
  · have hlt' : nl y ≤ nl x := by omega
    have hk : nl y ≤ nl x := by omega
    have hle := nl_add_le x y
    have hmax : max (nl x) (nl y) = nl x := by omega
    obtain ⟨k, hkk⟩ : ∃ k, nl x + 1 = k := ⟨_, rfl⟩
    have hXk : x < B ^ k := Nat.lt_of_lt_of_le (lt_nl x) (Nat.pow_le_pow_right B_pos (by omega))
    have hsum : x + y < B ^ k := Nat.lt_of_lt_of_le (lt_nl _) (Nat.pow_le_pow_right B_pos (by omega))
    have hmk := fun w => mk_run ((nl x : Int) + 1) k (by omega) (by omega) w
    have hr := mk_row w k
    have hcp := fun ty => copy_run ty w.heap.size 0 k k a (nl x) ca x (mk w k) hr (hx.mono (mk_below w k)) (by omega)
    have hbel : Below w.heap.size w (rowW (mk w k) w.heap.size 0 k x) := rowW_below (mk_below _ _) (Nat.le_refl _)
    have hsep : ∀ c, b = some c → nl y ≠ 0 → c.block ≠ w.heap.size := by
      intro c hc h0
      obtain ⟨b2, o2, e, hb2, _⟩ := hy.cells h0
      rw [e] at hc; cases hc; exact Nat.ne_of_lt hb2
    have hbel2 : Below w.heap.size w (rowW (mk w k) w.heap.size 0 k (x + y)) := rowW_below (mk_below _ _) (Nat.le_refl _)
    have hd : DigsAt (rowW (mk w k) w.heap.size 0 k (x + y)) (some ⟨w.heap.size, 0, none⟩) k k (x + y) := (hr.row (x + y)).digs hsum (by rw [rowW_size, mk_size]; omega) (Nat.le_refl _)
    have hk3 : k ≤ 68719476737 := by omega
    have hkn : nl y ≤ k := by omega
    have HM := Lib.hid hmax
    clear hkk hmax hle
    have hrr := hr.row x
    have HSEP := Lib.hid hsep
    have HW := Lib.hid (rowW_rowW (mk w k) w.heap.size 0 k x (x + y))
    clear hsep
    go_enter Tryz.func176, Tryz.ntmps176
    go_wp2_with (first | (go_at_call 203; refine (gain_any _ 0 k k x b (nl y) cb y _ hrr hXk (by omega) (hy.mono hbel) HSEP.out hkn hsum).mono ?_; rintro e w' ⟨rfl, rfl⟩; rw [HW.out]) | (go_at_call 175; refine (trim_any _ k k (x + y) _ hd (by omega)).mono ?_; rintro e w' ⟨rfl, rfl⟩))
    go_ret
    exact ⟨_, _, rfl, hd.shrink, hbel2⟩
theorem sub_any (a b : Option Addr) (ca cb x y : Nat) (w : World) (hx : DigsAt w a (nl x) ca x) (hy : DigsAt w b (nl y) cb y) (hnx : nl x ≤ 68719476736) (hyx : y ≤ x) :
    Calls Tryz.prog 177 #[.slice a (nl x) ca, .slice b (nl y) cb] w (Gives w (x - y)) := by
  have hnl := nl_mono hyx
  by_cases h0 : nl y = 0
  · have hy0 : y = 0 := nl_eq_zero.1 h0
    subst hy0
    rw [nl_zero, Nat.sub_zero]
    clear hy h0
    go_enter Tryz.func177, Tryz.ntmps177
    go_wp2_with fail
    refine (clone_any a (nl x) ca x w hx (by omega)).mono ?_
    rintro e w1 ⟨a1, c1, rfl, hd, hb, _⟩
    go_wp2_with (first | (go_at_call 204; refine (lose_none _ _ _ _ _ _).mono ?_; rintro e w' ⟨rfl, rfl⟩) | (go_at_call 175; refine (trim_any _ (nl x) c1 x _ hd (by omega)).mono ?_; rintro e w' ⟨rfl, rfl⟩))
    go_ret
    exact ⟨_, _, rfl, hd, hb⟩
  · go_enter Tryz.func177, Tryz.ntmps177
    go_wp2_with fail
    refine (clone_any a (nl x) ca x w hx (by omega)).mono ?_
    rintro e w1 ⟨a1, c1, rfl, hd, hb, hrow, _⟩
    obtain ⟨g, rfl, hg, hg2, hr⟩ := hrow (by omega)
    have hsep : ∀ c, b = some c → nl y ≠ 0 → c.block ≠ g := by
      intro c hc h1
      obtain ⟨b2, o2, e, hb2, _⟩ := hy.cells h1
      rw [e] at hc; cases hc; exact Nat.ne_of_lt (Nat.lt_of_lt_of_le hb2 hg)
    have hlt : x - y < B ^ nl x := Nat.lt_of_le_of_lt (Nat.sub_le _ _) (lt_nl x)
    have hd2 : DigsAt (rowW w1 g 0 (nl x) (x - y)) (some ⟨g, 0, none⟩) (nl x) c1 (x - y) := (hr.row (x - y)).digs hlt (by rw [rowW_size]; exact hg2) hd.fit
    have hbel : Below w.heap.size w (rowW w1 g 0 (nl x) (x - y)) := rowW_below hb hg
    have HSEP := Lib.hid hsep
    clear hsep hrow
    go_wp2_with (first | (go_at_call 204; refine (lose_any g 0 (nl x) c1 x b (nl y) cb y _ hr (lt_nl x) (by omega) (hy.mono hb) HSEP.out hnl hyx).mono ?_; rintro e w' ⟨rfl, rfl⟩) | (go_at_call 175; refine (trim_any _ (nl x) c1 (x - y) _ hd2 (by omega)).mono ?_; rintro e w' ⟨rfl, rfl⟩))
    go_ret
    exact ⟨_, _, rfl, hd2.shrink, hbel⟩
end Go.Proofs.YtlncagdekfjinaaGreatDoor
