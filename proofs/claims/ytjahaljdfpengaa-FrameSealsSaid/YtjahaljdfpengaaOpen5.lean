/- Blocks: Open of any block. -/
import Derived.Test.YtjahaljdfpengaaOpen3
import Derived.Test.YtjahaljdfpengaaEq
import Derived.Deep.QuietTactic
import Derived.BigQuiet
namespace Go.Proofs.Ytjahaljdfpengaa
open Go.RowKit
attribute [local go_sem] run_store_float

theorem digest_s (s : Nat) (hs : s < 18446744073709551616) (a : Option Addr) (l : List Nat) (cap n : Nat) (hn : l.length = n) (w : World) (hb : BytesAt w a l) (hl : l.length ≤ 1152921504606846976) :
    Calls Try.prog 72 #[.int .u64 (s : Int), .slice a n cap] w fun e w' => e = .returned (.int .u64 (dg s l : Int)) ∧ w' = w :=
  (digest_n s hs a l cap n hn w hb hl).mono fun _ _ ⟨h1, h2⟩ => ⟨h1, h2.symm⟩
theorem cut_zero (l : List Nat) (m : Nat) : cut l 0 m = l.take m := rfl
/-- Cells of a frame with no values. -/
def zF : Array Value := #[.int .i64 0, .int .i64 0, .int .i64 0, .int .i64 0, .int .i64 0, .float .f32 0, .float .f32 0, .float .f32 0, .float .f32 0]

theorem region_still {P : Program} {id : Nat} {Q : Exit → Act → World → Prop} {a : Act} {w : World} {l : List Oper} (hm : P.follows .mixedOrders = true) (hB : Region.lexB .any l.toArray = true)
    (h : ∀ w2, w2 = w.drew → wpStill P l.toArray w2 (fun a' => Q .normal a' w2) l a) : (Code.region id l.toArray true).wp P Q a w :=
  wp_region_still_lit hm hB (h _ rfl)
theorem zF_one : ∀ v ∈ zF.toList, v.oneCell' = true := by
  intro v hv
  simp [zF] at hv
  rcases hv with rfl | rfl <;> rfl
def partF (f : Fr) : Array Value := #[.int .i64 f.st, .int .i64 f.lo, .int .i64 f.li, .int .i64 f.nu, .int .i64 f.cl, .float .f32 f.v0, .float .f32 f.v1, .float .f32 f.v2, .float .f32 f.v3]
theorem partF_one (f : Fr) : ∀ v ∈ (partF f).toList, v.oneCell' = true := by
  intro v hv
  simp [partF] at hv
  rcases hv with rfl | rfl | rfl | rfl | rfl | rfl | rfl | rfl | rfl <;> rfl
theorem z40_one : ∀ v ∈ z40, v.oneCell' = true := by
  intro v hv
  rw [z40, List.mem_replicate] at hv
  rw [hv.2]
  rfl
/-- A load under a guard. -/
theorem wpList_box_load_g {P : Program} {ops : Array Oper} {rest : List Oper} {op : Oper} {a : Act} {w : World} {Q : Exit → Act → World → Prop} (hw : Region.wanted op (yielded ops a.tmps) = true) (ty : TypeId) (x : Operand) (ho : op.op = .load ty x)
    (g : Nat) (hx : a.eval x = .pointer (some ⟨g, 0, none⟩)) (t : TypeId) (vs : List Value) (d : TypeDesc) (hB : Box w g t vs.toArray) (hu : P.underlying ty = some d) (hd : d.isRow = true) (hi : (P.info? ty).map (·.size) = some vs.length)
    (h : wpList P ops Q rest (a.put op.dst (.agg vs.toArray)) w) : wpList P ops Q (op :: rest) a w := by
  rw [wpList, if_pos hw]
  exact .inl (wp_load_mid ty x ho g 0 hx vs d hB.range hu hd hi h)
/-- A new block that is filled. -/
theorem new_then (w : World) (o : Obj) {g : Nat} {t : TypeId} {vs : List Value} {X : World} (h : Filled g t vs (w.alloc o) X) (hg : w.heap.size ≤ g := by exact Nat.le_refl _) : Below w.heap.size w X :=
  ((Below.refl _ _).alloc (Nat.le_refl _) o).trans (h.below _ hg)
set_option maxHeartbeats 2000000 in
set_option maxRecDepth 100000 in
theorem open_sum (l : List Nat) (hl : l.length = 40) (hlt : ∀ x ∈ l, x < 256) (hs : ¬ sumOk l) (w : World) :
    Calls Try.prog 16 #[.agg (l.map byt).toArray] w fun e w' => e = .returned (.tuple #[zeroF.val, .int .i64 20]) ∧ Below w.heap.size w w' := by
  have hB := Box.new w 27 (l.map byt).toArray
  have HL := Lib.hid hl
  clear hl
  go_enter Try.func16, Try.ntmps16
  go_wp2
  have hBk : Box _ w.heap.size 27 (l.map byt).toArray := hB.below ((Below.refl _ _).alloc (Nat.le_refl _) (.cells zF 25)) (by simp)
  have hbk : Below w.heap.size w ((w.alloc (.cells (l.map byt).toArray 27)).alloc (.cells zF 25)) := ((Below.refl _ _).alloc (Nat.le_refl _) _).alloc (by simp) _
  have hRk : Box ((w.alloc (.cells (l.map byt).toArray 27)).alloc (.cells zF 25)) (w.heap.size + 1) 25 zF := Box.new' _ _ _ _ (by simp)
  change Code.wp _ _ _ _ ((w.alloc (.cells (l.map byt).toArray 27)).alloc (.cells zF 25))
  generalize ((w.alloc (.cells (l.map byt).toArray 27)).alloc (.cells zF 25)) = w1 at *
  refine region_still (by kernel_rfl) (by kernel_rfl) (fun w2 hw2 => ?_)
  have hBd := hBk.drew'
  have hRd := hRk.drew'
  have hbd := below_drew hbk
  rw [← hw2] at hBd hRd hbd
  clear hBk hRk hbk hw2 hB
  have hl32 := cut_len (l := l) (i := 0) (m := 32) (by rw [HL.out]; decide)
  have hl8 := cut_len (l := l) (i := 32) (m := 8) (by rw [HL.out]; decide)
  have h1 := get_s _ (cut l 32 8) 8 _ hl8 (by decide) _ (bytes_box hBd hlt 32 8 (by rw [HL.out]; decide))
  have h2 := digest_s 11 (by decide) _ (cut l 0 32) 40 _ hl32 _ (bytes_box hBd hlt 0 32 (by rw [HL.out]; decide)) (by rw [hl32]; decide)
  have hne : ((num (cut l 32 8) : Int) != (dg 11 (cut l 0 32) : Int)) = true := by
    rw [cut_zero, bne_iff_ne]
    exact fun h => hs (Int.ofNat.inj h)
  clear hl32 hl8 hs
  generalize num (cut l 32 8) = a at *
  generalize dg 11 (cut l 0 32) = d at *
  still_step
  still_call h1
  still_step
  still_call h2
  still_step
  refine wpStill_nil ?_
  go_wp2_with (refine wpList_box_store rfl 25 _ _ rfl (w.heap.size + 1) rfl zF.toList rfl _ _ hRd rfl infoF zF_one ?_; intro X hX)
  exact bodyPost_ret (v := .tuple #[zeroF.val, .int .i64 20]) (results_cell_slot Try.results16 _ _ _ _ rfl (box_load (vs := zF.toList) _ hX.box Try.underlying25 rfl infoF)) rfl ⟨rfl, hbd.trans (hX.below _ (by omega))⟩

set_option maxHeartbeats 4000000 in
set_option maxRecDepth 100000 in
/-- The digest fits. -/
theorem open_form (l : List Nat) (hl : l.length = 40) (hlt : ∀ x ∈ l, x < 256) (hs : sumOk l) (w : World) :
    Calls Try.prog 16 #[.agg (l.map byt).toArray] w fun e w' => e = .returned (.tuple #[(openF l).val, .int .i64 (openE l)]) ∧ Below w.heap.size w w' := by
  have hB := Box.new w 27 (l.map byt).toArray
  have HL := Lib.hid hl
  have Hin := Lib.hid (infoB (n := (l.map byt).length) (by rw [List.length_map, hl]))
  obtain ⟨hs1, hs2, hs3, hs4, hs5, hs6, hs7, hs8, hs9⟩ := readF_small hlt
  have HRF := Lib.hid (readF_small hlt)
  clear hl
  go_enter Try.func16, Try.ntmps16
  go_wp2
  have hBk : Box _ w.heap.size 27 (l.map byt).toArray := hB.below ((Below.refl _ _).alloc (Nat.le_refl _) (.cells zF 25)) (by simp)
  have hbk : Below w.heap.size w ((w.alloc (.cells (l.map byt).toArray 27)).alloc (.cells zF 25)) := ((Below.refl _ _).alloc (Nat.le_refl _) _).alloc (by simp) _
  have hRk : Box ((w.alloc (.cells (l.map byt).toArray 27)).alloc (.cells zF 25)) (w.heap.size + 1) 25 zF := Box.new' _ _ _ _ (by simp)
  change Code.wp _ _ _ _ ((w.alloc (.cells (l.map byt).toArray 27)).alloc (.cells zF 25))
  generalize ((w.alloc (.cells (l.map byt).toArray 27)).alloc (.cells zF 25)) = w1 at *
  refine region_still (by kernel_rfl) (by kernel_rfl) (fun w2 hw2 => ?_)
  have hBd := hBk.drew'
  have hRd := hRk.drew'
  have hbd := below_drew hbk
  rw [← hw2] at hBd hRd hbd
  clear hBk hRk hbk hw2 hB
  have hl32 := cut_len (l := l) (i := 0) (m := 32) (by rw [HL.out]; decide)
  have hl8 := cut_len (l := l) (i := 32) (m := 8) (by rw [HL.out]; decide)
  have h1 := get_s _ (cut l 32 8) 8 _ hl8 (by decide) _ (bytes_box hBd hlt 32 8 (by rw [HL.out]; decide))
  have h2 := digest_s 11 (by decide) _ (cut l 0 32) 40 _ hl32 _ (bytes_box hBd hlt 0 32 (by rw [HL.out]; decide)) (by rw [hl32]; decide)
  have hne : num (cut l 32 8) = dg 11 (cut l 0 32) := by
    rw [cut_zero]
    exact hs
  rw [hne] at h1
  have HS := Lib.hid hs
  clear hl32 hl8 hs hne
  generalize dg 11 (cut l 0 32) = d at *
  still_step
  still_call h1
  still_step
  still_call h2
  still_step
  refine wpStill_nil ?_
  clear h1 h2
  have HBd := Lib.hid hBd
  have HRd := Lib.hid hRd
  clear hBd hRd
  go_wp2_with (refine wpList_box_load rfl 27 _ rfl w.heap.size rfl _ _ _ HBd.out Try.underlying27 rfl Hin.out ?_)
  refine (read_any l HL.out hlt _).mono ?_
  rintro e w3 ⟨rfl, hb3⟩
  have HB3 := Lib.hid (HBd.out.below hb3 HBd.out.lt)
  have HR3 := Lib.hid (HRd.out.below hb3 HRd.out.lt)
  have hb3' := hbd.trans (hb3.mono hbd.size)
  clear HBd HRd hbd hb3
  have hz3 : w.heap.size + 2 ≤ w3.heap.size := HR3.out.lt
  by_cases hc : (readF l).cl ≤ 1099511627776
  · have hok : FrOk (readF l) := ⟨hs1, hs2, hs3, hs4, hc, hs6, hs7, hs8, hs9⟩
    have hm40 := block_len (readF l)
    have hmlt := block_lt (readF l)
    have hvl : ((block (readF l)).map byt).length = 40 := by rw [List.length_map, hm40]
    have Hmin := Lib.hid (infoB (n := ((block (readF l)).map byt).length) hvl)
    have Hvl := Lib.hid hvl
    have HVO := Lib.hid (byt_one (block (readF l)))
    have hA3 : Below w3.heap.size w3 (w3.alloc (.cells (partF (readF l)) 25)) := (Below.refl _ _).alloc (Nat.le_refl _) _
    have HF3 := Lib.hid (Box.new w3 25 (partF (readF l)))
    have HB4 := Lib.hid (HB3.out.below hA3 HB3.out.lt)
    have HR4 := Lib.hid (HR3.out.below hA3 HR3.out.lt)
    have hb4' := hb3'.trans (hA3.mono hb3'.size)
    by_cases he : block (readF l) = l
    · have hneq := fun (W : World) => neq_B (block (readF l)) l hm40 HL.out hmlt hlt W
      rw [decide_eq_false (by simpa using he)] at hneq
      have HE : Hid (openE l = 0 ∧ openF l = readF l) := Lib.hid ⟨by unfold openE; rw [if_pos HS.out, if_pos ⟨HS.out, hc, he⟩], by unfold openF; rw [if_pos ⟨HS.out, hc, he⟩]⟩
      have HN := Lib.hid hneq
      clear hneq he hvl hm40 hmlt hA3
      go_wp2_with fail
      refine (seal_yes (readF l) _ hok).mono ?_
      rintro e w4 ⟨rfl, hb4⟩
      have HF5 := Lib.hid (HF3.out.below hb4 HF3.out.lt)
      have HB5 := Lib.hid (HB4.out.below hb4 HB4.out.lt)
      have HR5 := Lib.hid (HR4.out.below hb4 HR4.out.lt)
      have hb5' := hb4'.trans (hb4.mono hb4'.size)
      have hneq := HN.out
      have hz4 : w3.heap.size < w4.heap.size := HF5.out.lt
      clear hb4 hb4' HF3 HB4 HR4 HB3 HR3 HN
      generalize (block (readF l)).map byt = vs at *
      go_wp2_with (first | (refine wpList_box_store rfl 27 _ _ rfl w4.heap.size rfl vs rfl _ _ (Box.new' _ _ _ _ rfl) (Eq.trans rfl Hvl.out.symm) Hmin.out HVO.out ?_; intro X hX; have hWX := new_then w4 _ hX; have HF6 := Lib.hid (HF5.out.below hWX HF5.out.lt); have HB6 := Lib.hid (HB5.out.below hWX HB5.out.lt); have HR6 := Lib.hid (HR5.out.below hWX HR5.out.lt); have hb6' := hb5'.trans (hWX.mono hb5'.size); have HX := Lib.hid hX.box; clear hX hWX HF5 HB5 HR5 hb5') | (refine wpList_box_load_g rfl 27 _ rfl w4.heap.size rfl _ vs _ HX.out Try.underlying27 rfl Hmin.out ?_) | (refine wpList_box_load_g rfl 27 _ rfl w.heap.size rfl _ (l.map byt) _ HB6.out Try.underlying27 rfl Hin.out ?_) | (refine wpList_box_load rfl 25 _ rfl w3.heap.size rfl _ (partF (readF l)).toList _ HF6.out Try.underlying25 rfl infoF ?_) | (refine wpList_box_store rfl 25 _ _ rfl (w.heap.size + 1) rfl (partF (readF l)).toList rfl _ _ HR6.out rfl infoF (partF_one _) ?_; intro Y hY))
      exact bodyPost_ret (v := .tuple #[(readF l).val, .int .i64 0]) (results_cell_slot Try.results16 _ _ _ _ rfl (box_load (vs := (partF (readF l)).toList) _ hY.box Try.underlying25 rfl infoF)) rfl ⟨by rw [HE.out.1, HE.out.2], hb6'.trans (hY.below _ (by omega))⟩
    · have hneq := fun (W : World) => neq_B (block (readF l)) l hm40 HL.out hmlt hlt W
      rw [decide_eq_true (by simpa using he)] at hneq
      have hno : ¬ openOk l := fun h => he h.2.2
      have HE : Hid (openE l = 2 ∧ openF l = zeroF) := Lib.hid ⟨by unfold openE; rw [if_pos HS.out, if_neg hno], by unfold openF; rw [if_neg hno]⟩
      have HN := Lib.hid hneq
      clear hneq he hvl hm40 hmlt hA3 hno
      go_wp2_with fail
      refine (seal_yes (readF l) _ hok).mono ?_
      rintro e w4 ⟨rfl, hb4⟩
      have HF5 := Lib.hid (HF3.out.below hb4 HF3.out.lt)
      have HB5 := Lib.hid (HB4.out.below hb4 HB4.out.lt)
      have HR5 := Lib.hid (HR4.out.below hb4 HR4.out.lt)
      have hb5' := hb4'.trans (hb4.mono hb4'.size)
      have hneq := HN.out
      have hz4 : w3.heap.size < w4.heap.size := HF5.out.lt
      clear hb4 hb4' HF3 HB4 HR4 HB3 HR3 HN
      generalize (block (readF l)).map byt = vs at *
      go_wp2_with (first | (refine wpList_box_store rfl 27 _ _ rfl w4.heap.size rfl vs rfl _ _ (Box.new' _ _ _ _ rfl) (Eq.trans rfl Hvl.out.symm) Hmin.out HVO.out ?_; intro X hX; have hWX := new_then w4 _ hX; have HF6 := Lib.hid (HF5.out.below hWX HF5.out.lt); have HB6 := Lib.hid (HB5.out.below hWX HB5.out.lt); have HR6 := Lib.hid (HR5.out.below hWX HR5.out.lt); have hb6' := hb5'.trans (hWX.mono hb5'.size); have HX := Lib.hid hX.box; clear hX hWX HF5 HB5 HR5 hb5') | (refine wpList_box_load_g rfl 27 _ rfl w4.heap.size rfl _ vs _ HX.out Try.underlying27 rfl Hmin.out ?_) | (refine wpList_box_load_g rfl 27 _ rfl w.heap.size rfl _ (l.map byt) _ HB6.out Try.underlying27 rfl Hin.out ?_) | (refine wpList_box_load rfl 25 _ rfl w3.heap.size rfl _ (partF (readF l)).toList _ HF6.out Try.underlying25 rfl infoF ?_) | (refine wpList_box_store rfl 25 _ _ rfl (w.heap.size + 1) rfl zF.toList rfl _ _ HR6.out rfl infoF zF_one ?_; intro Y hY))
      exact bodyPost_ret (v := .tuple #[zeroF.val, .int .i64 2]) (results_cell_slot Try.results16 _ _ _ _ rfl (box_load (vs := zF.toList) _ hY.box Try.underlying25 rfl infoF)) rfl ⟨by rw [HE.out.1, HE.out.2], hb6'.trans (hY.below _ (by omega))⟩
  · have hA3 : Below w3.heap.size w3 (w3.alloc (.cells (partF (readF l)) 25)) := (Below.refl _ _).alloc (Nat.le_refl _) _
    have HF3 := Lib.hid (Box.new w3 25 (partF (readF l)))
    have HR4 := Lib.hid (HR3.out.below hA3 HR3.out.lt)
    have hb4' := hb3'.trans (hA3.mono hb3'.size)
    have hno : ¬ openOk l := fun h => hc h.2.1
    have HE : Hid (openE l = 2 ∧ openF l = zeroF) := Lib.hid ⟨by unfold openE; rw [if_pos HS.out, if_neg hno], by unfold openF; rw [if_neg hno]⟩
    have hnk : ¬ (KeyOk ((readF l).st : Int) (readF l).lo (readF l).li (readF l).nu ∧ 0 ≤ ((readF l).cl : Int) ∧ ((readF l).cl : Int) ≤ 1099511627776) := fun h => hc (by have := h.2.2; omega)
    clear hno hA3 HB3
    go_wp2_with fail
    refine (seal_no (readF l).st (readF l).lo (readF l).li (readF l).nu (readF l).cl (readF l).v0 (readF l).v1 (readF l).v2 (readF l).v3 _ hnk).mono ?_
    rintro e w4 ⟨rfl, hb4⟩
    have HR5 := Lib.hid (HR4.out.below hb4 HR4.out.lt)
    have hb5' := hb4'.trans (hb4.mono hb4'.size)
    have hz4 : w3.heap.size < w4.heap.size := (HF3.out.below hb4 HF3.out.lt).lt
    clear hb4 hb4' HF3 HR4 HR3
    go_wp2_with (first | (refine wpList_box_store rfl 27 _ _ rfl w4.heap.size rfl z40 rfl _ _ (Box.new' _ _ _ _ rfl) rfl z40_info' z40_one ?_; intro X hX; have hWX := new_then w4 _ hX; have HR6 := Lib.hid (HR5.out.below hWX HR5.out.lt); have hb6' := hb5'.trans (hWX.mono hb5'.size); clear hX hWX HR5 hb5') | (refine wpList_box_store rfl 25 _ _ rfl (w.heap.size + 1) rfl zF.toList rfl _ _ HR6.out rfl infoF zF_one ?_; intro Y hY))
    exact bodyPost_ret (v := .tuple #[zeroF.val, .int .i64 2]) (results_cell_slot Try.results16 _ _ _ _ rfl (box_load (vs := zF.toList) _ hY.box Try.underlying25 rfl infoF)) rfl ⟨by rw [HE.out.1, HE.out.2], hb6'.trans (hY.below _ (by omega))⟩

theorem open_any (l : List Nat) (hl : l.length = 40) (hlt : ∀ x ∈ l, x < 256) (w : World) :
    Calls Try.prog 16 #[.agg (l.map byt).toArray] w fun e w' => e = .returned (.tuple #[(openF l).val, .int .i64 (openE l)]) ∧ Below w.heap.size w w' := by
  by_cases hs : sumOk l
  · exact open_form l hl hlt hs w
  · have h1 : openE l = 20 := by unfold openE; rw [if_neg hs]
    have h2 : openF l = zeroF := by unfold openF; rw [if_neg fun h => hs h.1]
    rw [h1, h2]
    exact open_sum l hl hlt hs w
end Go.Proofs.Ytjahaljdfpengaa
