/- FrameSeals holds: for every frame, block, place and byte the law returns true, and its arguments read as they read. No condition. -/
import Derived.Test.YtjahaljdfpengaaRopen
import Derived.Test.YtjahaljdfpengaaLaw
import Derived.ChangeKeysEq
namespace Go.Proofs.Ytjahaljdfpengaa.seals
open Go.ChangeShapes Go.WideShapes Go.ChangeAt Go.RowKit
attribute [local go_sem] run_store_float

theorem infoU32 : ∃ i, Try.prog.info? 34 = some i ∧ Try.prog.cellsOf 34 = 1 := by
  obtain ⟨i, hi⟩ := Option.isSome_iff_exists.1 (show (Try.prog.info? 34).isSome = true by kernel_rfl)
  exact ⟨i, hi, by kernel_rfl⟩
theorem neq_F (f : Fr) (w : World) : (binOp .neq 37 f.ref f.ref).run Try.prog w = .ok (.bool false) w := by
  obtain ⟨i, hi, h1⟩ := infoU32
  rw [run_neq_struct, run_equalIn_agg w 9999 _ _ _ (by kernel_rfl) (by kernel_rfl)]
  simp [Program.fieldsOf, Try.underlying37, Op.eqFields, go_sem, run_equalIn_array w _ _ _ Try.underlying35 hi]
  simp [h1, Op.eqItems, Go.part, isAgg, run_underlying Try.underlying34, run_equalIn_int _ _ _ _ _ _ _ Try.underlying34]

/-- What lies in memory: blocks that are known whole, the newest one first; below w nothing has turned. -/
structure Mem (w W : World) (L : List (Nat × TypeId × List Value)) : Prop where
  d : Below w.heap.size w W
  b : ∀ (i g : Nat) (t : TypeId) (vs : List Value), L[i]? = some (g, t, vs) → Box W g t vs.toArray ∧ w.heap.size ≤ g
theorem Mem.call {w W W' : World} {L : List (Nat × TypeId × List Value)} (h : Mem w W L) (hb : Below W.heap.size W W') : Mem w W' L :=
  ⟨h.d.trans (hb.mono h.d.size), fun i g t vs e => ⟨(h.b i g t vs e).1.below hb (h.b i g t vs e).1.lt, (h.b i g t vs e).2⟩⟩
theorem Mem.drew {w W : World} {L : List (Nat × TypeId × List Value)} (h : Mem w W L) : Mem w W.drew L := ⟨below_drew h.d, fun i g t vs e => h.b i g t vs e⟩
theorem Mem.put {w W : World} {L : List (Nat × TypeId × List Value)} {g : Nat} {t : TypeId} {vs : List Value} (h : Mem w W L) (hb : Box W g t vs.toArray) (hg : w.heap.size ≤ g) : Mem w W ((g, t, vs) :: L) :=
  ⟨h.d, fun i g' t' vs' e => by
    cases i with
    | zero =>
      simp only [List.getElem?_cons_zero, Option.some.injEq, Prod.mk.injEq] at e
      obtain ⟨rfl, rfl, rfl⟩ := e
      exact ⟨hb, hg⟩
    | succ i => exact h.b i g' t' vs' (by simpa using e)⟩
theorem Mem.fresh {w W X : World} {L : List (Nat × TypeId × List Value)} {t : TypeId} {vs : List Value} {o : Obj} (h : Mem w W L) (hX : Filled W.heap.size t vs (W.alloc o) X) : Mem w X ((W.heap.size, t, vs) :: L) :=
  (h.call (new_then W o hX)).put hX.box h.d.size
theorem Mem.new {w W : World} {L : List (Nat × TypeId × List Value)} (h : Mem w W L) (t : TypeId) (vs : List Value) : Mem w (W.alloc (.cells vs.toArray t)) ((W.heap.size, t, vs) :: L) :=
  (h.call ((Below.refl _ _).alloc (Nat.le_refl _) _)).put (Box.new _ _ _) h.d.size
theorem Mem.new' {w W : World} {L : List (Nat × TypeId × List Value)} (h : Mem w W L) {n : Nat} (hn : W.heap.size = n) (t : TypeId) (vs : List Value) : Mem w (W.alloc (.cells vs.toArray t)) ((n, t, vs) :: L) := by subst hn; exact h.new t vs
theorem Mem.start (w : World) : Mem w w [] := ⟨Below.refl _ _, fun i g t vs e => by cases e⟩
theorem Mem.box {w W : World} {L : List (Nat × TypeId × List Value)} (h : Mem w W L) {i g : Nat} {t : TypeId} {vs : List Value} (e : L[i]? = some (g, t, vs)) : Box W g t vs.toArray := (h.b i g t vs e).1
/-- A store into one of the blocks, the newest one of all that are named behind it. -/
theorem Mem.set {w W : World} {L : List (Nat × TypeId × List Value)} {g j : Nat} {t : TypeId} {vs us : List Value} {v : Value} (h : Mem w W L) (hb : Box W g t vs.toArray) (hg : w.heap.size ≤ g) (e : vs.toArray.setIfInBounds j v = us.toArray)
    (hne : ∀ (i g' : Nat) (t' : TypeId) (vs' : List Value), L[i]? = some (g', t', vs') → g' ≠ g) : Mem w (W.setCell ⟨g, j, none⟩ v) ((g, t, us) :: L) :=
  ⟨h.d.setCell (p := ⟨g, j, none⟩) hg _, (Mem.put (w := w) (W := W.setCell ⟨g, j, none⟩ v) ⟨h.d.setCell (p := ⟨g, j, none⟩) hg _, fun i g' t' vs' e' => ⟨(h.b i g' t' vs' e').1.at' (hne i g' t' vs' e'), (h.b i g' t' vs' e').2⟩⟩ (by rw [← e]; exact hb.set v) hg).b⟩

theorem openF_formed (l : List Nat) (hlt : ∀ x ∈ l, x < 256) : formed (openF l) := by
  unfold openF
  split
  · rename_i h
    exact ((openOk_ref hlt).1 h).2.1
  · exact ⟨by decide, by decide, by decide, by decide⟩
theorem openF_small (l : List Nat) (hlt : ∀ x ∈ l, x < 256) : (openF l).v0 < 4294967296 ∧ (openF l).v1 < 4294967296 ∧ (openF l).v2 < 4294967296 ∧ (openF l).v3 < 4294967296 := by
  unfold openF
  split
  · obtain ⟨_, _, _, _, _, h6, h7, h8, h9⟩ := readF_small hlt
    exact ⟨h6, h7, h8, h9⟩
  · exact ⟨by decide, by decide, by decide, by decide⟩
theorem plain_open (l : List Nat) (hlt : ∀ x ∈ l, x < 256) (W : World) : Calls Try.prog 15 #[(openF l).val] W fun e w' => e = .returned (openF l).ref ∧ Below W.heap.size W w' := by
  obtain ⟨a, b, c, d⟩ := openF_small l hlt
  obtain ⟨e0, e1, e2, e3⟩ := openF_formed l hlt
  have := plain_any (openF l).st (openF l).lo (openF l).li (openF l).nu (openF l).cl (openF l).v0 (openF l).v1 (openF l).v2 (openF l).v3 a b c d W
  rw [e0, e1, e2, e3] at this
  exact this
theorem plain_fr (f : Fr) (h : FrOk f) (W : World) : Calls Try.prog 15 #[f.val] W fun e w' => e = .returned (norm f).ref ∧ Below W.heap.size W w' :=
  plain_any f.st f.lo f.li f.nu f.cl f.v0 f.v1 f.v2 f.v3 h.v0 h.v1 h.v2 h.v3 W
theorem plain_norm (f : Fr) (h : FrOk f) (W : World) : Calls Try.prog 15 #[(norm f).val] W fun e w' => e = .returned (norm f).ref ∧ Below W.heap.size W w' := by
  have := plain_fr (norm f) (norm_ok h) W
  have e : norm (norm f) = norm f := by simp only [norm, vb_vb]
  rwa [e] at this
theorem zeros_byt : (List.replicate 40 0).map byt = z40 := rfl

set_option maxHeartbeats 16000000 in
set_option maxRecDepth 100000 in
theorem walk_no (st lo li nu cl : Int) (v0 v1 v2 v3 : Nat) (h0 : v0 < 4294967296) (h1 : v1 < 4294967296) (h2 : v2 < 4294967296) (h3 : v3 < 4294967296) (l : List Nat) (hl : l.length = 40) (hlt : ∀ x ∈ l, x < 256) (at_ by_ : Int) (w : World)
    (h : ¬ (KeyOk st lo li nu ∧ 0 ≤ cl ∧ cl ≤ 1099511627776)) :
    Calls Try.prog 3 #[.agg #[.int .i64 st, .int .i64 lo, .int .i64 li, .int .i64 nu, .int .i64 cl, .float .f32 v0, .float .f32 v1, .float .f32 v2, .float .f32 v3], .agg (l.map byt).toArray, .int .u8 at_, .int .u8 by_] w fun e w' =>
      e = .returned (.bool true) ∧ Below w.heap.size w w' := by
  obtain ⟨X, hX0⟩ : ∃ X : List Nat, X = List.replicate 40 0 := ⟨_, rfl⟩
  have hXl : X.length = 40 := by rw [hX0]; rfl
  have hXlt : ∀ x ∈ X, x < 256 := fun x hx => by rw [hX0, List.mem_replicate] at hx; rw [hx.2]; decide
  have hseal := fun (W : World) => seal_no st lo li nu cl v0 v1 v2 v3 W h
  have hrseal := fun (W : World) => refSeal_no st lo li nu cl (vb v0) (vb v1) (vb v2) (vb v3) W h
  have hplain := fun (W : World) => plain_any st lo li nu cl v0 v1 v2 v3 h0 h1 h2 h3 W
  rw [← zeros_byt, ← hX0] at hseal hrseal
  clear hX0 h
  have hopen := fun (W : World) => open_any l hl hlt W
  have hropen := fun (W : World) => refOpen_any l hl hlt W
  have hplain2 := fun (W : World) => plain_open l hlt W
  have hneqX := fun (W : World) => neq_R X X hXl hXl hXlt hXlt W
  rw [decide_eq_false (by simp)] at hneqX
  have hneqG : ∀ W : World, (binOp .neq 37 (openF l).ref (.agg (partR (openF l)))).run Try.prog W = .ok (.bool false) W := fun W => neq_F (openF l) W
  have hvl : (l.map byt).length = 40 := by rw [List.length_map, hl]
  have hvx : (X.map byt).length = 40 := by rw [List.length_map, hXl]
  have HIl := Lib.hid (infoB (n := (l.map byt).length) hvl)
  have HIx := Lib.hid (infoB (n := (X.map byt).length) hvx)
  have HIxR := Lib.hid (infoR (n := (X.map byt).length) hvx)
  have HOx := Lib.hid (byt_one X)
  have HLx := Lib.hid hvx
  have HOG := Lib.hid (partF_one (openF l))
  have HOR := Lib.hid (partR_one (openF l))
  generalize hxs : X.map byt = xs at *
  have HXS := Lib.hid hxs
  generalize l.map byt = vs at *
  generalize openF l = G at *
  generalize openE l = ec at *
  clear hvl hvx hxs
  go_enter Try.func3, Try.ntmps3
  go_wp2_with fail
  refine (hseal _).mono ?_
  rintro e w1 ⟨rfl, hb1⟩
  have M1 := Lib.hid ((((Mem.start w).new 25 [.int .i64 st, .int .i64 lo, .int .i64 li, .int .i64 nu, .int .i64 cl, .float .f32 v0, .float .f32 v1, .float .f32 v2, .float .f32 v3]).new' (n := w.heap.size + 1) (by simp) 27 vs).call hb1)
  clear hb1 hseal
  go_wp2_with (first | (refine wpList_box_store rfl 27 _ _ rfl w1.heap.size rfl xs rfl _ _ (Box.new' _ _ _ _ rfl) (Eq.trans rfl HLx.out.symm) HIx.out HOx.out ?_; intro X hX; have M2 := Lib.hid (M1.out.fresh hX); clear hX M1) | (refine wpList_box_load rfl 25 _ rfl w.heap.size rfl _ [.int .i64 st, .int .i64 lo, .int .i64 li, .int .i64 nu, .int .i64 cl, .float .f32 v0, .float .f32 v1, .float .f32 v2, .float .f32 v3] _ (M2.out.box (i := 2) rfl) Try.underlying25 rfl infoF ?_))
  refine (hplain _).mono ?_
  rintro e w2 ⟨rfl, hb2⟩
  have M3 := Lib.hid (M2.out.call hb2)
  clear hb2 M2 hplain
  go_wp2_with fail
  refine (hrseal _).mono ?_
  rintro e w3 ⟨rfl, hb3⟩
  have M4 := Lib.hid (M3.out.call hb3)
  clear hb3 M3 hrseal
  go_wp2_with (first | (refine wpList_box_store rfl 31 _ _ rfl w3.heap.size rfl xs rfl _ _ (Box.new' _ _ _ _ rfl) (Eq.trans rfl HLx.out.symm) HIxR.out HOx.out ?_; intro X hX; have M5 := Lib.hid (M4.out.fresh hX); clear hX M4) | (refine wpList_box_load rfl 27 _ rfl (w.heap.size + 1) rfl _ vs _ (M5.out.box (i := 2) rfl) Try.underlying27 rfl HIl.out ?_))
  refine (hopen _).mono ?_
  rintro e w4 ⟨rfl, hb4⟩
  have M6 := Lib.hid (M5.out.call hb4)
  clear hb4 M5 hopen
  go_wp2_with (first | (refine wpList_box_store rfl 25 _ _ rfl w4.heap.size rfl (partF G).toList rfl _ _ (Box.new' _ _ _ _ rfl) rfl infoF HOG.out ?_; intro X hX; have M7 := Lib.hid (M6.out.fresh hX); clear hX M6) | (refine wpList_box_load rfl 27 _ rfl (w.heap.size + 1) rfl _ vs _ (M7.out.box (i := 3) rfl) Try.underlying27 rfl HIl.out ?_))
  refine (hropen _).mono ?_
  rintro e w5 ⟨rfl, hb5⟩
  have M8 := Lib.hid (M7.out.call hb5)
  clear hb5 M7 hropen
  go_wp2_with (first | (refine wpList_box_store rfl 37 _ _ rfl w5.heap.size rfl (partR G).toList rfl _ _ (Box.new' _ _ _ _ rfl) rfl infoRF HOR.out ?_; intro X hX; have M9 := Lib.hid (M8.out.fresh hX); clear hX M8))
  have M10 := Lib.hid M9.out.drew
  clear M9
  refine wp_region_held_drew (S := fun w' => w'.rangeAt w1.heap.size 0 xs ∧ w'.rangeAt w3.heap.size 0 xs ∧ w'.rangeAt w4.heap.size 0 (partF G).toList ∧ w'.rangeAt w5.heap.size 0 (partR G).toList) (by kernel_rfl) ⟨(M10.out.box (i := 3) rfl).range, (M10.out.box (i := 2) rfl).range, (M10.out.box (i := 1) rfl).range, (M10.out.box (i := 0) rfl).range⟩ (fun hHeld => ?_)
  refine wpAnyH_take (i := 0) (v := ?_) rfl (by kernel_rfl) (by kernel_rfl) (by kernel_rfl) (fun _ _ _ h => h) (Or.inl ⟨by rfl, ?_⟩) hHeld ?_
  rotate_left
  · intro w' _
    go_simp
    try with_reducible rfl
  try simp only [List.getElem_toArray, List.getElem_cons_succ, List.getElem_cons_zero, Act.put, List.setIfInBounds_toArray, List.set_cons_zero, List.set_cons_succ]
  refine wpAnyH_take (i := 1) (v := ?_) rfl (by kernel_rfl) (by kernel_rfl) (by kernel_rfl) (fun _ _ _ h => h) (Or.inl ⟨by rfl, ?_⟩) hHeld ?_
  rotate_left
  · intro w' _
    go_simp
    try with_reducible rfl
  try simp only [List.getElem_toArray, List.getElem_cons_succ, List.getElem_cons_zero, Act.put, List.setIfInBounds_toArray, List.set_cons_zero, List.set_cons_succ]
  refine wpAnyH_take (i := 2) (v := ?_) rfl (by kernel_rfl) (by kernel_rfl) (by kernel_rfl) (fun _ _ _ h => h) (Or.inl ⟨by rfl, ?_⟩) hHeld ?_
  rotate_left
  · intro w' _
    go_simp
    try with_reducible rfl
  try simp only [List.getElem_toArray, List.getElem_cons_succ, List.getElem_cons_zero, Act.put, List.setIfInBounds_toArray, List.set_cons_zero, List.set_cons_succ]
  refine wpAnyH_take (i := 3) (v := ?_) rfl (by kernel_rfl) (by kernel_rfl) (by kernel_rfl) (fun _ _ _ h => h) (Or.inl ⟨by rfl, ?_⟩) hHeld ?_
  rotate_left
  · intro w' _
    go_simp
    try with_reducible rfl
  try simp only [List.getElem_toArray, List.getElem_cons_succ, List.getElem_cons_zero, Act.put, List.setIfInBounds_toArray, List.set_cons_zero, List.set_cons_succ]
  refine wpAnyH_take (i := 4) (v := _) rfl (by kernel_rfl) (by kernel_rfl) (by kernel_rfl) (fun _ _ _ h => h) (yieldsIf_load_mid (by rfl) _ _ rfl _ _ rfl _ _ (fun _ h => h.1) Try.underlying27 rfl HIx.out) hHeld ?_
  try simp only [List.getElem_toArray, List.getElem_cons_succ, List.getElem_cons_zero, Act.put, List.setIfInBounds_toArray, List.set_cons_zero, List.set_cons_succ]
  refine wpAnyH_take (i := 5) (v := _) rfl (by kernel_rfl) (by kernel_rfl) (by kernel_rfl) (fun _ _ _ h => h) (yieldsIf_load_mid (by rfl) _ _ rfl _ _ rfl _ _ (fun _ h => h.2.1) Try.underlying31 rfl HIxR.out) hHeld ?_
  try simp only [List.getElem_toArray, List.getElem_cons_succ, List.getElem_cons_zero, Act.put, List.setIfInBounds_toArray, List.set_cons_zero, List.set_cons_succ]
  refine wpAnyH_take (i := 6) (v := ?_) rfl (by kernel_rfl) (by kernel_rfl) (by kernel_rfl) (fun _ _ _ h => h) (Or.inl ⟨by rfl, ?_⟩) hHeld ?_
  rotate_left
  · intro w' _
    go_simp
    try with_reducible rfl
  try simp only [List.getElem_toArray, List.getElem_cons_succ, List.getElem_cons_zero, Act.put, List.setIfInBounds_toArray, List.set_cons_zero, List.set_cons_succ]
  refine wpAnyH_take (i := 7) (v := ?_) rfl (by kernel_rfl) (by kernel_rfl) (by kernel_rfl) (fun _ _ _ h => h) (Or.inl ⟨by rfl, ?_⟩) hHeld ?_
  rotate_left
  · intro w' _
    go_simp
    try with_reducible rfl
  try simp only [List.getElem_toArray, List.getElem_cons_succ, List.getElem_cons_zero, Act.put, List.setIfInBounds_toArray, List.set_cons_zero, List.set_cons_succ]
  refine wpAnyH_take (i := 8) (v := ?_) rfl (by kernel_rfl) (by kernel_rfl) (by kernel_rfl) (fun _ _ _ h => h) (Or.inl ⟨by rfl, ?_⟩) hHeld ?_
  rotate_left
  · intro w' _
    go_simp
    try with_reducible rfl
  try simp only [List.getElem_toArray, List.getElem_cons_succ, List.getElem_cons_zero, Act.put, List.setIfInBounds_toArray, List.set_cons_zero, List.set_cons_succ]
  refine wpAnyH_take (i := 9) (v := ?_) rfl (by kernel_rfl) (by kernel_rfl) (by kernel_rfl) (fun _ _ _ h => h) (Or.inl ⟨by rfl, ?_⟩) hHeld ?_
  rotate_left
  · intro w' _
    go_simp
    try with_reducible rfl
  try simp only [List.getElem_toArray, List.getElem_cons_succ, List.getElem_cons_zero, Act.put, List.setIfInBounds_toArray, List.set_cons_zero, List.set_cons_succ]
  refine wpAnyH_take (i := 10) (v := ?_) rfl (by kernel_rfl) (by kernel_rfl) (by kernel_rfl) (fun _ _ _ h => h) (Or.inl ⟨by rfl, ?_⟩) hHeld ?_
  rotate_left
  · intro w' _
    go_simp
    try with_reducible rfl
  try simp only [List.getElem_toArray, List.getElem_cons_succ, List.getElem_cons_zero, Act.put, List.setIfInBounds_toArray, List.set_cons_zero, List.set_cons_succ]
  refine wpAnyH_take (i := 11) (v := ?_) rfl (by kernel_rfl) (by kernel_rfl) (by kernel_rfl) (fun _ _ _ h => h) (Or.inl ⟨by rfl, ?_⟩) hHeld ?_
  rotate_left
  · intro w' _
    go_simp
    try with_reducible rfl
  try simp only [List.getElem_toArray, List.getElem_cons_succ, List.getElem_cons_zero, Act.put, List.setIfInBounds_toArray, List.set_cons_zero, List.set_cons_succ]
  refine wpAnyH_take (i := 12) (v := ?_) rfl (by kernel_rfl) (by kernel_rfl) (by kernel_rfl) (fun _ _ _ h => h) (Or.inl ⟨by rfl, ?_⟩) hHeld ?_
  rotate_left
  · intro w' _
    go_simp
    try with_reducible rfl
  try simp only [List.getElem_toArray, List.getElem_cons_succ, List.getElem_cons_zero, Act.put, List.setIfInBounds_toArray, List.set_cons_zero, List.set_cons_succ]
  refine wpAnyH_take (i := 13) (v := ?_) rfl (by kernel_rfl) (by kernel_rfl) (by kernel_rfl) (fun _ _ _ h => h) (Or.inl ⟨by rfl, ?_⟩) hHeld ?_
  rotate_left
  · intro w' _
    go_simp
    try with_reducible rfl
  try simp only [List.getElem_toArray, List.getElem_cons_succ, List.getElem_cons_zero, Act.put, List.setIfInBounds_toArray, List.set_cons_zero, List.set_cons_succ]
  refine wpAnyH_take (i := 14) (v := _) rfl (by kernel_rfl) (by kernel_rfl) (by kernel_rfl) (fun _ _ _ h => h) (yieldsIf_load_mid (by rfl) _ _ rfl _ _ rfl _ _ (fun _ h => h.2.2.1) Try.underlying25 rfl infoF) hHeld ?_
  try simp only [List.getElem_toArray, List.getElem_cons_succ, List.getElem_cons_zero, Act.put, List.setIfInBounds_toArray, List.set_cons_zero, List.set_cons_succ]
  refine wpAnyH_take (i := 16) (v := _) rfl (by kernel_rfl) (by kernel_rfl) (by kernel_rfl) (fun _ _ _ h => h) (yieldsIf_load_mid (by rfl) _ _ rfl _ _ rfl _ _ (fun _ h => h.2.2.2) Try.underlying37 rfl infoRF) hHeld ?_
  try simp only [List.getElem_toArray, List.getElem_cons_succ, List.getElem_cons_zero, Act.put, List.setIfInBounds_toArray, List.set_cons_zero, List.set_cons_succ]
  refine wpAnyH_ready (rs := [15]) (by kernel_rfl) (by simp) ?_
  refine AllReadyH.cons rfl (fun K hK => ?_) AllReadyH.nil
  go_simp
  refine Calls.mono (hplain2 _) ?_
  rintro e w6 ⟨rfl, hb6⟩
  have M11 := Lib.hid (M10.out.call hb6)
  clear hb6 M10 hplain2
  dsimp only
  refine hK.out _ _ ⟨(M11.out.box (i := 3) rfl).range, (M11.out.box (i := 2) rfl).range, (M11.out.box (i := 1) rfl).range, (M11.out.box (i := 0) rfl).range⟩ (fun hHeld => ?_)
  clear hK K
  try simp only [List.getElem_toArray, List.getElem_cons_succ, List.getElem_cons_zero, Act.put, List.setIfInBounds_toArray, List.set_cons_zero, List.set_cons_succ]
  refine wpAnyH_take (i := 17) (v := ?_) rfl (by kernel_rfl) (by kernel_rfl) (by kernel_rfl) (fun _ _ _ h => h) (Or.inl ⟨by rfl, ?_⟩) hHeld ?_
  rotate_left
  · intro w' _
    go_simp
    try with_reducible rfl
  try simp only [List.getElem_toArray, List.getElem_cons_succ, List.getElem_cons_zero, Act.put, List.setIfInBounds_toArray, List.set_cons_zero, List.set_cons_succ]
  refine wpAnyH_take (i := 18) (v := ?_) rfl (by kernel_rfl) (by kernel_rfl) (by kernel_rfl) (fun _ _ _ h => h) (Or.inl ⟨by rfl, ?_⟩) hHeld ?_
  rotate_left
  · intro w' _
    go_simp
    try with_reducible rfl
  try simp only [List.getElem_toArray, List.getElem_cons_succ, List.getElem_cons_zero, Act.put, List.setIfInBounds_toArray, List.set_cons_zero, List.set_cons_succ]
  refine wpAnyH_done (by kernel_rfl) ?_ _
  clear hHeld hneqX hneqG
  go_wp2_with fail
  refine (awake_any _).mono ?_
  rintro e w7 ⟨rfl, hb7⟩
  go_wp2_with fail
  go_ret
  exact ⟨rfl, (M11.out.call hb7).d⟩

set_option maxHeartbeats 16000000 in
set_option maxRecDepth 100000 in
theorem walk_yes (st lo li nu cl v0 v1 v2 v3 : Nat) (hF : FrOk ⟨st, lo, li, nu, cl, v0, v1, v2, v3⟩) (l : List Nat) (hl : l.length = 40) (hlt : ∀ x ∈ l, x < 256) (at_ b : Nat) (hat : at_ < 256) (hby : b < 256) (w : World) :
    Calls Try.prog 3 #[.agg #[.int .i64 st, .int .i64 lo, .int .i64 li, .int .i64 nu, .int .i64 cl, .float .f32 v0, .float .f32 v1, .float .f32 v2, .float .f32 v3], .agg (l.map byt).toArray, .int .u8 (at_ : Int), .int .u8 (b : Int)] w fun e w' =>
      e = .returned (.bool true) ∧ Below w.heap.size w w' := by
  obtain ⟨X, hX0⟩ : ∃ X : List Nat, X = block ⟨st, lo, li, nu, cl, v0, v1, v2, v3⟩ := ⟨_, rfl⟩
  have hXl : X.length = 40 := by rw [hX0]; exact block_len _
  have hXlt : ∀ x ∈ X, x < 256 := by rw [hX0]; exact block_lt _
  have hseal := fun (W : World) => seal_yes ⟨st, lo, li, nu, cl, v0, v1, v2, v3⟩ W hF
  have hrseal := fun (W : World) => refSeal_yes (norm ⟨st, lo, li, nu, cl, v0, v1, v2, v3⟩) W (norm_ok hF)
  have hplain := fun (W : World) => plain_fr ⟨st, lo, li, nu, cl, v0, v1, v2, v3⟩ hF W
  have hplainF := fun (W : World) => plain_fr ⟨st, lo, li, nu, cl, v0, v1, v2, v3⟩ hF W
  have hplainN := fun (W : World) => plain_norm ⟨st, lo, li, nu, cl, v0, v1, v2, v3⟩ hF W
  have hneqN := fun (W : World) => neq_F (norm ⟨st, lo, li, nu, cl, v0, v1, v2, v3⟩) W
  have hopenX := fun (W : World) => open_any X hXl hXlt W
  obtain ⟨ob1, ob2⟩ := open_block hF
  rw [← hX0] at ob1 ob2
  rw [ob1, ob2] at hopenX
  rw [← hX0] at hseal
  rw [block'_norm, ← hX0] at hrseal
  obtain ⟨j, hj⟩ : ∃ j, j = at_ % 40 := ⟨_, rfl⟩
  have hj40 : j < 40 := by omega
  obtain ⟨x, hx0⟩ : ∃ x, x = X.getD j 0 := ⟨_, rfl⟩
  have hx256 : x < 256 := by rw [hx0]; exact hXlt _ (by rw [List.getD, List.getElem?_eq_getElem (by omega)]; simp)
  have hxb : x ^^^ b < 256 := Nat.xor_lt_two_pow (n := 8) hx256 hby
  have hY : ∀ y ∈ X.set j (x ^^^ b), y < 256 := fun y hy => by
    rcases List.mem_or_eq_of_mem_set hy with h | rfl
    · exact hXlt y h
    · exact hxb
  have hYl : (X.set j (x ^^^ b)).length = 40 := by rw [List.length_set, hXl]
  have hopenY := fun (W : World) => open_any (X.set j (x ^^^ b)) hYl hY W
  have HBy : Hid (b ≠ 0 → openE (X.set j (x ^^^ b)) = 20) := Lib.hid fun hb => by
    have hne : X[j]? ≠ some (x ^^^ b) := fun h => by
      have h2 : X[j]? = some x := by rw [hx0]; simp [List.getD, hXl, hj40]
      rw [h2] at h
      have h3 : x = x ^^^ b := by simpa using h
      have h4 : x ^^^ 0 = x ^^^ b := by rw [Nat.xor_zero]; exact h3
      exact hb (xor_cancel x 0 b h4).symm
    rw [hX0] at hne ⊢
    have := sum_set ⟨st, lo, li, nu, cl, v0, v1, v2, v3⟩ j (x ^^^ b) hj40 hxb hne
    unfold openE
    rw [if_neg this]
  have HXY : Hid (((X.map byt).toArray).setIfInBounds j (byt (x ^^^ b)) = ((X.set j (x ^^^ b)).map byt).toArray) := Lib.hid (map_set X j (x ^^^ b))
  have HXJ : Hid ((X.map byt).toArray[j]? = some (byt x)) := Lib.hid (by rw [hx0]; exact byte_at (by omega))
  have HYi := Lib.hid (infoB (n := ((X.set j (x ^^^ b)).map byt).length) (by rw [List.length_map, hYl]))
  have HON := Lib.hid (partF_one (norm ⟨st, lo, li, nu, cl, v0, v1, v2, v3⟩))
  have HJ := Lib.hid hj
  have HX8 := Lib.hid (u8_xor_nat x b hx256 hby)
  generalize openE (X.set j (x ^^^ b)) = ec2 at *
  generalize openF (X.set j (x ^^^ b)) = Gy at *
  generalize (X.set j (x ^^^ b)).map byt = ys at *
  clear hX0 hx0 hj ob1 ob2 hF hY hYl
  generalize hN : norm ⟨st, lo, li, nu, cl, v0, v1, v2, v3⟩ = Nf at *
  clear hN
  have hopen := fun (W : World) => open_any l hl hlt W
  have hropen := fun (W : World) => refOpen_any l hl hlt W
  have hplain2 := fun (W : World) => plain_open l hlt W
  have hneqX := fun (W : World) => neq_R X X hXl hXl hXlt hXlt W
  rw [decide_eq_false (by simp)] at hneqX
  have hneqG : ∀ W : World, (binOp .neq 37 (openF l).ref (.agg (partR (openF l)))).run Try.prog W = .ok (.bool false) W := fun W => neq_F (openF l) W
  have hvl : (l.map byt).length = 40 := by rw [List.length_map, hl]
  have hvx : (X.map byt).length = 40 := by rw [List.length_map, hXl]
  have HIl := Lib.hid (infoB (n := (l.map byt).length) hvl)
  have HIx := Lib.hid (infoB (n := (X.map byt).length) hvx)
  have HIxR := Lib.hid (infoR (n := (X.map byt).length) hvx)
  have HOx := Lib.hid (byt_one X)
  have HLx := Lib.hid hvx
  have HOG := Lib.hid (partF_one (openF l))
  have HOR := Lib.hid (partR_one (openF l))
  generalize hxs : X.map byt = xs at *
  have HXS := Lib.hid hxs
  generalize l.map byt = vs at *
  generalize openF l = G at *
  generalize openE l = ec at *
  clear hvl hvx hxs
  go_enter Try.func3, Try.ntmps3
  go_wp2_with fail
  refine (hseal _).mono ?_
  rintro e w1 ⟨rfl, hb1⟩
  have M1 := Lib.hid ((((Mem.start w).new 25 [.int .i64 st, .int .i64 lo, .int .i64 li, .int .i64 nu, .int .i64 cl, .float .f32 v0, .float .f32 v1, .float .f32 v2, .float .f32 v3]).new' (n := w.heap.size + 1) (by simp) 27 vs).call hb1)
  clear hb1 hseal
  go_wp2_with (first | (refine wpList_box_store rfl 27 _ _ rfl w1.heap.size rfl xs rfl _ _ (Box.new' _ _ _ _ rfl) (Eq.trans rfl HLx.out.symm) HIx.out HOx.out ?_; intro X hX; have M2 := Lib.hid (M1.out.fresh hX); clear hX M1) | (refine wpList_box_load rfl 25 _ rfl w.heap.size rfl _ [.int .i64 st, .int .i64 lo, .int .i64 li, .int .i64 nu, .int .i64 cl, .float .f32 v0, .float .f32 v1, .float .f32 v2, .float .f32 v3] _ (M2.out.box (i := 2) rfl) Try.underlying25 rfl infoF ?_))
  refine (hplain _).mono ?_
  rintro e w2 ⟨rfl, hb2⟩
  have M3 := Lib.hid (M2.out.call hb2)
  clear hb2 M2 hplain
  go_wp2_with fail
  refine (hrseal _).mono ?_
  rintro e w3 ⟨rfl, hb3⟩
  have M4 := Lib.hid (M3.out.call hb3)
  clear hb3 M3 hrseal
  go_wp2_with (first | (refine wpList_box_store rfl 31 _ _ rfl w3.heap.size rfl xs rfl _ _ (Box.new' _ _ _ _ rfl) (Eq.trans rfl HLx.out.symm) HIxR.out HOx.out ?_; intro X hX; have M5 := Lib.hid (M4.out.fresh hX); clear hX M4) | (refine wpList_box_load rfl 27 _ rfl (w.heap.size + 1) rfl _ vs _ (M5.out.box (i := 2) rfl) Try.underlying27 rfl HIl.out ?_))
  refine (hopen _).mono ?_
  rintro e w4 ⟨rfl, hb4⟩
  have M6 := Lib.hid (M5.out.call hb4)
  clear hb4 M5 hopen
  go_wp2_with (first | (refine wpList_box_store rfl 25 _ _ rfl w4.heap.size rfl (partF G).toList rfl _ _ (Box.new' _ _ _ _ rfl) rfl infoF HOG.out ?_; intro X hX; have M7 := Lib.hid (M6.out.fresh hX); clear hX M6) | (refine wpList_box_load rfl 27 _ rfl (w.heap.size + 1) rfl _ vs _ (M7.out.box (i := 3) rfl) Try.underlying27 rfl HIl.out ?_))
  refine (hropen _).mono ?_
  rintro e w5 ⟨rfl, hb5⟩
  have M8 := Lib.hid (M7.out.call hb5)
  clear hb5 M7 hropen
  go_wp2_with (first | (refine wpList_box_store rfl 37 _ _ rfl w5.heap.size rfl (partR G).toList rfl _ _ (Box.new' _ _ _ _ rfl) rfl infoRF HOR.out ?_; intro X hX; have M9 := Lib.hid (M8.out.fresh hX); clear hX M8))
  have M10 := Lib.hid M9.out.drew
  clear M9
  refine wp_region_held_drew (S := fun w' => w'.rangeAt w1.heap.size 0 xs ∧ w'.rangeAt w3.heap.size 0 xs ∧ w'.rangeAt w4.heap.size 0 (partF G).toList ∧ w'.rangeAt w5.heap.size 0 (partR G).toList) (by kernel_rfl) ⟨(M10.out.box (i := 3) rfl).range, (M10.out.box (i := 2) rfl).range, (M10.out.box (i := 1) rfl).range, (M10.out.box (i := 0) rfl).range⟩ (fun hHeld => ?_)
  refine wpAnyH_take (i := 0) (v := ?_) rfl (by kernel_rfl) (by kernel_rfl) (by kernel_rfl) (fun _ _ _ h => h) (Or.inl ⟨by rfl, ?_⟩) hHeld ?_
  rotate_left
  · intro w' _
    go_simp
    try with_reducible rfl
  try simp only [List.getElem_toArray, List.getElem_cons_succ, List.getElem_cons_zero, Act.put, List.setIfInBounds_toArray, List.set_cons_zero, List.set_cons_succ]
  refine wpAnyH_take (i := 1) (v := ?_) rfl (by kernel_rfl) (by kernel_rfl) (by kernel_rfl) (fun _ _ _ h => h) (Or.inl ⟨by rfl, ?_⟩) hHeld ?_
  rotate_left
  · intro w' _
    go_simp
    try with_reducible rfl
  try simp only [List.getElem_toArray, List.getElem_cons_succ, List.getElem_cons_zero, Act.put, List.setIfInBounds_toArray, List.set_cons_zero, List.set_cons_succ]
  refine wpAnyH_take (i := 2) (v := ?_) rfl (by kernel_rfl) (by kernel_rfl) (by kernel_rfl) (fun _ _ _ h => h) (Or.inl ⟨by rfl, ?_⟩) hHeld ?_
  rotate_left
  · intro w' _
    go_simp
    try with_reducible rfl
  try simp only [List.getElem_toArray, List.getElem_cons_succ, List.getElem_cons_zero, Act.put, List.setIfInBounds_toArray, List.set_cons_zero, List.set_cons_succ]
  refine wpAnyH_take (i := 3) (v := ?_) rfl (by kernel_rfl) (by kernel_rfl) (by kernel_rfl) (fun _ _ _ h => h) (Or.inl ⟨by rfl, ?_⟩) hHeld ?_
  rotate_left
  · intro w' _
    go_simp
    try with_reducible rfl
  try simp only [List.getElem_toArray, List.getElem_cons_succ, List.getElem_cons_zero, Act.put, List.setIfInBounds_toArray, List.set_cons_zero, List.set_cons_succ]
  refine wpAnyH_take (i := 4) (v := _) rfl (by kernel_rfl) (by kernel_rfl) (by kernel_rfl) (fun _ _ _ h => h) (yieldsIf_load_mid (by rfl) _ _ rfl _ _ rfl _ _ (fun _ h => h.1) Try.underlying27 rfl HIx.out) hHeld ?_
  try simp only [List.getElem_toArray, List.getElem_cons_succ, List.getElem_cons_zero, Act.put, List.setIfInBounds_toArray, List.set_cons_zero, List.set_cons_succ]
  refine wpAnyH_take (i := 5) (v := _) rfl (by kernel_rfl) (by kernel_rfl) (by kernel_rfl) (fun _ _ _ h => h) (yieldsIf_load_mid (by rfl) _ _ rfl _ _ rfl _ _ (fun _ h => h.2.1) Try.underlying31 rfl HIxR.out) hHeld ?_
  try simp only [List.getElem_toArray, List.getElem_cons_succ, List.getElem_cons_zero, Act.put, List.setIfInBounds_toArray, List.set_cons_zero, List.set_cons_succ]
  refine wpAnyH_take (i := 6) (v := ?_) rfl (by kernel_rfl) (by kernel_rfl) (by kernel_rfl) (fun _ _ _ h => h) (Or.inl ⟨by rfl, ?_⟩) hHeld ?_
  rotate_left
  · intro w' _
    go_simp
    try with_reducible rfl
  try simp only [List.getElem_toArray, List.getElem_cons_succ, List.getElem_cons_zero, Act.put, List.setIfInBounds_toArray, List.set_cons_zero, List.set_cons_succ]
  refine wpAnyH_take (i := 7) (v := ?_) rfl (by kernel_rfl) (by kernel_rfl) (by kernel_rfl) (fun _ _ _ h => h) (Or.inl ⟨by rfl, ?_⟩) hHeld ?_
  rotate_left
  · intro w' _
    go_simp
    try with_reducible rfl
  try simp only [List.getElem_toArray, List.getElem_cons_succ, List.getElem_cons_zero, Act.put, List.setIfInBounds_toArray, List.set_cons_zero, List.set_cons_succ]
  refine wpAnyH_take (i := 8) (v := ?_) rfl (by kernel_rfl) (by kernel_rfl) (by kernel_rfl) (fun _ _ _ h => h) (Or.inl ⟨by rfl, ?_⟩) hHeld ?_
  rotate_left
  · intro w' _
    go_simp
    try with_reducible rfl
  try simp only [List.getElem_toArray, List.getElem_cons_succ, List.getElem_cons_zero, Act.put, List.setIfInBounds_toArray, List.set_cons_zero, List.set_cons_succ]
  refine wpAnyH_take (i := 9) (v := ?_) rfl (by kernel_rfl) (by kernel_rfl) (by kernel_rfl) (fun _ _ _ h => h) (Or.inl ⟨by rfl, ?_⟩) hHeld ?_
  rotate_left
  · intro w' _
    go_simp
    try with_reducible rfl
  try simp only [List.getElem_toArray, List.getElem_cons_succ, List.getElem_cons_zero, Act.put, List.setIfInBounds_toArray, List.set_cons_zero, List.set_cons_succ]
  refine wpAnyH_take (i := 10) (v := ?_) rfl (by kernel_rfl) (by kernel_rfl) (by kernel_rfl) (fun _ _ _ h => h) (Or.inl ⟨by rfl, ?_⟩) hHeld ?_
  rotate_left
  · intro w' _
    go_simp
    try with_reducible rfl
  try simp only [List.getElem_toArray, List.getElem_cons_succ, List.getElem_cons_zero, Act.put, List.setIfInBounds_toArray, List.set_cons_zero, List.set_cons_succ]
  refine wpAnyH_take (i := 11) (v := ?_) rfl (by kernel_rfl) (by kernel_rfl) (by kernel_rfl) (fun _ _ _ h => h) (Or.inl ⟨by rfl, ?_⟩) hHeld ?_
  rotate_left
  · intro w' _
    go_simp
    try with_reducible rfl
  try simp only [List.getElem_toArray, List.getElem_cons_succ, List.getElem_cons_zero, Act.put, List.setIfInBounds_toArray, List.set_cons_zero, List.set_cons_succ]
  refine wpAnyH_take (i := 12) (v := ?_) rfl (by kernel_rfl) (by kernel_rfl) (by kernel_rfl) (fun _ _ _ h => h) (Or.inl ⟨by rfl, ?_⟩) hHeld ?_
  rotate_left
  · intro w' _
    go_simp
    try with_reducible rfl
  try simp only [List.getElem_toArray, List.getElem_cons_succ, List.getElem_cons_zero, Act.put, List.setIfInBounds_toArray, List.set_cons_zero, List.set_cons_succ]
  refine wpAnyH_take (i := 13) (v := ?_) rfl (by kernel_rfl) (by kernel_rfl) (by kernel_rfl) (fun _ _ _ h => h) (Or.inl ⟨by rfl, ?_⟩) hHeld ?_
  rotate_left
  · intro w' _
    go_simp
    try with_reducible rfl
  try simp only [List.getElem_toArray, List.getElem_cons_succ, List.getElem_cons_zero, Act.put, List.setIfInBounds_toArray, List.set_cons_zero, List.set_cons_succ]
  refine wpAnyH_take (i := 14) (v := _) rfl (by kernel_rfl) (by kernel_rfl) (by kernel_rfl) (fun _ _ _ h => h) (yieldsIf_load_mid (by rfl) _ _ rfl _ _ rfl _ _ (fun _ h => h.2.2.1) Try.underlying25 rfl infoF) hHeld ?_
  try simp only [List.getElem_toArray, List.getElem_cons_succ, List.getElem_cons_zero, Act.put, List.setIfInBounds_toArray, List.set_cons_zero, List.set_cons_succ]
  refine wpAnyH_take (i := 16) (v := _) rfl (by kernel_rfl) (by kernel_rfl) (by kernel_rfl) (fun _ _ _ h => h) (yieldsIf_load_mid (by rfl) _ _ rfl _ _ rfl _ _ (fun _ h => h.2.2.2) Try.underlying37 rfl infoRF) hHeld ?_
  try simp only [List.getElem_toArray, List.getElem_cons_succ, List.getElem_cons_zero, Act.put, List.setIfInBounds_toArray, List.set_cons_zero, List.set_cons_succ]
  refine wpAnyH_ready (rs := [15]) (by kernel_rfl) (by simp) ?_
  refine AllReadyH.cons rfl (fun K hK => ?_) AllReadyH.nil
  go_simp
  refine Calls.mono (hplain2 _) ?_
  rintro e w6 ⟨rfl, hb6⟩
  have M11 := Lib.hid (M10.out.call hb6)
  clear hb6 M10 hplain2
  dsimp only
  refine hK.out _ _ ⟨(M11.out.box (i := 3) rfl).range, (M11.out.box (i := 2) rfl).range, (M11.out.box (i := 1) rfl).range, (M11.out.box (i := 0) rfl).range⟩ (fun hHeld => ?_)
  clear hK K
  try simp only [List.getElem_toArray, List.getElem_cons_succ, List.getElem_cons_zero, Act.put, List.setIfInBounds_toArray, List.set_cons_zero, List.set_cons_succ]
  refine wpAnyH_take (i := 17) (v := ?_) rfl (by kernel_rfl) (by kernel_rfl) (by kernel_rfl) (fun _ _ _ h => h) (Or.inl ⟨by rfl, ?_⟩) hHeld ?_
  rotate_left
  · intro w' _
    go_simp
    try with_reducible rfl
  try simp only [List.getElem_toArray, List.getElem_cons_succ, List.getElem_cons_zero, Act.put, List.setIfInBounds_toArray, List.set_cons_zero, List.set_cons_succ]
  refine wpAnyH_take (i := 18) (v := ?_) rfl (by kernel_rfl) (by kernel_rfl) (by kernel_rfl) (fun _ _ _ h => h) (Or.inl ⟨by rfl, ?_⟩) hHeld ?_
  rotate_left
  · intro w' _
    go_simp
    try with_reducible rfl
  try simp only [List.getElem_toArray, List.getElem_cons_succ, List.getElem_cons_zero, Act.put, List.setIfInBounds_toArray, List.set_cons_zero, List.set_cons_succ]
  refine wpAnyH_done (by kernel_rfl) ?_ _
  clear hHeld hneqX hneqG
  go_wp2_with (first | (refine wpList_box_load rfl 27 _ rfl w1.heap.size rfl _ xs _ (M11.out.box (i := 3) rfl) Try.underlying27 rfl HIx.out ?_))
  refine (hopenX _).mono ?_
  rintro e w7 ⟨rfl, hb7⟩
  have M12 := Lib.hid (M11.out.call hb7)
  clear hb7 M11 hopenX
  go_wp2_with (first | (refine wpList_box_store rfl 25 _ _ rfl w7.heap.size rfl (partF Nf).toList rfl _ _ (Box.new' _ _ _ _ rfl) rfl infoF HON.out ?_; intro X hX; have M13 := Lib.hid (M12.out.fresh hX); clear hX M12))
  have M14 := Lib.hid M13.out.drew
  clear M13
  refine wp_region_held_drew (S := fun w' => w'.rangeAt w7.heap.size 0 (partF Nf).toList ∧ w'.rangeAt w.heap.size 0 [.int .i64 st, .int .i64 lo, .int .i64 li, .int .i64 nu, .int .i64 cl, .float .f32 v0, .float .f32 v1, .float .f32 v2, .float .f32 v3]) (by kernel_rfl) ⟨(M14.out.box (i := 0) rfl).range, (M14.out.box (i := 6) rfl).range⟩ (fun hHeld => ?_)
  refine wpAnyH_take (i := 0) (v := ?_) rfl (by kernel_rfl) (by kernel_rfl) (by kernel_rfl) (fun _ _ _ h => h) (Or.inl ⟨by rfl, ?_⟩) hHeld ?_
  rotate_left
  · intro w' _
    go_simp
    try with_reducible rfl
  try simp only [List.getElem_toArray, List.getElem_cons_succ, List.getElem_cons_zero, Act.put, List.setIfInBounds_toArray, List.set_cons_zero, List.set_cons_succ]
  refine wpAnyH_take (i := 1) (v := ?_) rfl (by kernel_rfl) (by kernel_rfl) (by kernel_rfl) (fun _ _ _ h => h) (Or.inl ⟨by rfl, ?_⟩) hHeld ?_
  rotate_left
  · intro w' _
    go_simp
    try with_reducible rfl
  try simp only [List.getElem_toArray, List.getElem_cons_succ, List.getElem_cons_zero, Act.put, List.setIfInBounds_toArray, List.set_cons_zero, List.set_cons_succ]
  refine wpAnyH_take (i := 2) (v := ?_) rfl (by kernel_rfl) (by kernel_rfl) (by kernel_rfl) (fun _ _ _ h => h) (Or.inl ⟨by rfl, ?_⟩) hHeld ?_
  rotate_left
  · intro w' _
    go_simp
    try with_reducible rfl
  try simp only [List.getElem_toArray, List.getElem_cons_succ, List.getElem_cons_zero, Act.put, List.setIfInBounds_toArray, List.set_cons_zero, List.set_cons_succ]
  refine wpAnyH_take (i := 3) (v := _) rfl (by kernel_rfl) (by kernel_rfl) (by kernel_rfl) (fun _ _ _ h => h) (yieldsIf_load_mid (by rfl) _ _ rfl _ _ rfl _ _ (fun _ h => h.1) Try.underlying25 rfl infoF) hHeld ?_
  try simp only [List.getElem_toArray, List.getElem_cons_succ, List.getElem_cons_zero, Act.put, List.setIfInBounds_toArray, List.set_cons_zero, List.set_cons_succ]
  refine wpAnyH_take (i := 5) (v := _) rfl (by kernel_rfl) (by kernel_rfl) (by kernel_rfl) (fun _ _ _ h => h) (yieldsIf_load_mid (by rfl) _ _ rfl _ _ rfl _ _ (fun _ h => h.2) Try.underlying25 rfl infoF) hHeld ?_
  try simp only [List.getElem_toArray, List.getElem_cons_succ, List.getElem_cons_zero, Act.put, List.setIfInBounds_toArray, List.set_cons_zero, List.set_cons_succ]
  refine wpAnyH_ready (rs := [4]) (by kernel_rfl) (by simp) ?_
  refine AllReadyH.cons rfl (fun K hK => ?_) AllReadyH.nil
  go_simp
  refine Calls.mono (hplainN _) ?_
  rintro e w8 ⟨rfl, hb8⟩
  have M15 := Lib.hid (M14.out.call hb8)
  clear hb8 M14
  dsimp only
  refine hK.out _ _ ⟨(M15.out.box (i := 0) rfl).range, (M15.out.box (i := 6) rfl).range⟩ (fun hHeld => ?_)
  clear hK K
  try simp only [List.getElem_toArray, List.getElem_cons_succ, List.getElem_cons_zero, Act.put, List.setIfInBounds_toArray, List.set_cons_zero, List.set_cons_succ]
  refine wpAnyH_ready (rs := [6]) (by kernel_rfl) (by simp) ?_
  refine AllReadyH.cons rfl (fun K hK => ?_) AllReadyH.nil
  go_simp
  refine Calls.mono (hplainF _) ?_
  rintro e w9 ⟨rfl, hb8⟩
  have M16 := Lib.hid (M15.out.call hb8)
  clear hb8 M15
  dsimp only
  refine hK.out _ _ ⟨(M16.out.box (i := 0) rfl).range, (M16.out.box (i := 6) rfl).range⟩ (fun hHeld => ?_)
  clear hK K
  try simp only [List.getElem_toArray, List.getElem_cons_succ, List.getElem_cons_zero, Act.put, List.setIfInBounds_toArray, List.set_cons_zero, List.set_cons_succ]
  refine wpAnyH_take (i := 7) (v := ?_) rfl (by kernel_rfl) (by kernel_rfl) (by kernel_rfl) (fun _ _ _ h => h) (Or.inl ⟨by rfl, ?_⟩) hHeld ?_
  rotate_left
  · intro w' _
    go_simp
    try with_reducible rfl
  try simp only [List.getElem_toArray, List.getElem_cons_succ, List.getElem_cons_zero, Act.put, List.setIfInBounds_toArray, List.set_cons_zero, List.set_cons_succ]
  refine wpAnyH_take (i := 8) (v := ?_) rfl (by kernel_rfl) (by kernel_rfl) (by kernel_rfl) (fun _ _ _ h => h) (Or.inl ⟨by rfl, ?_⟩) hHeld ?_
  rotate_left
  · intro w' _
    go_simp
    try with_reducible rfl
  try simp only [List.getElem_toArray, List.getElem_cons_succ, List.getElem_cons_zero, Act.put, List.setIfInBounds_toArray, List.set_cons_zero, List.set_cons_succ]
  refine wpAnyH_done (by kernel_rfl) ?_ _
  clear hHeld hneqN hplainN hplainF
  have hB9 := M16.out.box (i := 4) rfl
  have q := hB9.at_ HXJ.out
  have qf := hB9.free j
  have e8 := HX8.out
  rw [HJ.out] at q qf
  have hB9x : Hid (Box (w9.setCell ⟨w1.heap.size, at_ % 40, none⟩ (byt (x ^^^ b))) w1.heap.size 27 ys.toArray) := Lib.hid (by rw [← HXY.out, HJ.out]; exact hB9.set _)
  have hDx : Below w.heap.size w (w9.setCell ⟨w1.heap.size, at_ % 40, none⟩ (byt (x ^^^ b))) := M16.out.d.setCell (p := ⟨w1.heap.size, at_ % 40, none⟩) (M16.out.b 4 _ _ _ rfl).2 _
  clear hB9 M16
  by_cases hb0 : b = 0
  · have hbe : ((b : Int) == 0) = true := by rw [hb0]; rfl
    clear hb0
    go_wp2_with (refine wpList_box_load rfl 27 _ rfl w1.heap.size rfl _ ys _ hB9x.out Try.underlying27 rfl HYi.out ?_)
    refine (hopenY _).mono ?_
    rintro e wy ⟨rfl, hby2⟩
    go_wp2_with fail
    refine (awake_any _).mono ?_
    rintro e wz ⟨rfl, hbz⟩
    go_wp2_with fail
    go_ret
    exact ⟨rfl, (hDx.trans (hby2.mono hDx.size)).trans (hbz.mono (Nat.le_trans hDx.size hby2.size))⟩
  · have hbe : ((b : Int) == 0) = false := by rw [beq_eq_false_iff_ne]; omega
    have hec := HBy.out hb0
    subst hec
    clear hb0
    go_wp2_with (refine wpList_box_load rfl 27 _ rfl w1.heap.size rfl _ ys _ hB9x.out Try.underlying27 rfl HYi.out ?_)
    refine (hopenY _).mono ?_
    rintro e wy ⟨rfl, hby2⟩
    go_wp2_with fail
    refine (awake_any _).mono ?_
    rintro e wz ⟨rfl, hbz⟩
    go_wp2_with fail
    go_ret
    exact ⟨rfl, (hDx.trans (hby2.mono hDx.size)).trans (hbz.mono (Nat.le_trans hDx.size hby2.size))⟩
end Go.Proofs.Ytjahaljdfpengaa.seals
