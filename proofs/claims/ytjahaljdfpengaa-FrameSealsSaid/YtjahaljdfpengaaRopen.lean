/- Blocks: the reference's Open of any block. -/
import Derived.Test.YtjahaljdfpengaaRseal2
import Derived.Deep.DeepCutAuto
namespace Go.Proofs.Ytjahaljdfpengaa
open Go.RowKit

/-- Cells of the reference's frame with nothing in it. -/
def zR : Array Value := #[.int .i64 0, .int .i64 0, .int .i64 0, .int .i64 0, .int .i64 0, .int .u32 0, .int .u32 0, .int .u32 0, .int .u32 0]
theorem zR_one : ∀ v ∈ zR.toList, v.oneCell' = true := by
  intro v hv
  simp [zR] at hv
  rcases hv with rfl | rfl <;> rfl
theorem infoRF : (Try.prog.info? 37).map (·.size) = some 9 := by kernel_rfl
theorem base8 (C : Array Value) (w W : World) (h : W = ((w.alloc (.cells C 31)).alloc (.cells zR 37))) :
    Hid (Box W w.heap.size 31 C) ∧ Hid (Box W (w.heap.size + 1) 37 zR) ∧ Below w.heap.size w W := by
  subst h
  refine ⟨Lib.hid ?_, Lib.hid ?_, ((Below.refl _ _).alloc (Nat.le_refl _) _).alloc (by simp) _⟩
  · exact (Box.new w _ _).below ((Below.refl _ _).alloc (Nat.le_refl _) _) (by simp)
  · exact Box.new' _ _ _ _ (by simp)

set_option maxHeartbeats 2000000 in
set_option maxRecDepth 100000 in
theorem refOpen_sum (l : List Nat) (hl : l.length = 40) (hlt : ∀ x ∈ l, x < 256) (hs : ¬ sumOk l) (w : World) :
    Calls Try.prog 17 #[.agg (l.map byt).toArray] w fun e w' => e = .returned (.tuple #[zeroF.ref, .int .i64 20]) ∧ Below w.heap.size w w' := by
  have HL := Lib.hid hl
  have hget := fun W => refGet_any l 32 8 hl hlt (by decide) (by decide) W
  have hvl : (l.map byt).length = 40 := by rw [List.length_map, hl]
  have hin := infoR (n := (l.map byt).length) hvl
  have h1 := byt_one l
  have hl32 := cut_len (l := l) (i := 0) (m := 32) (by rw [hl]; decide)
  have hdg := fun (W : World) (hB : Box W w.heap.size 31 (l.map byt).toArray) => refDigest_s 11 (by decide) _ (cut l 0 32) 40 _ hl32 W (bytes_box hB hlt 0 32 (by rw [hl]; decide)) (by rw [hl32]; decide)
  have hne : ((nat l 32 8 : Int) != (dg 11 (cut l 0 32) : Int)) = true := by
    rw [cut_zero, bne_iff_ne]
    exact fun h => hs (Int.ofNat.inj h)
  clear hl hl32 hs
  generalize nat l 32 8 = a at *
  generalize dg 11 (cut l 0 32) = d at *
  generalize l.map byt = vs at *
  go_enter Try.func17, Try.ntmps17
  go_wp2
  obtain ⟨B0, R0, hb0⟩ := base8 vs.toArray w ((w.alloc (.cells vs.toArray 31)).alloc (.cells #[.int .i64 0, .int .i64 0, .int .i64 0, .int .i64 0, .int .i64 0, .int .u32 0, .int .u32 0, .int .u32 0, .int .u32 0] 37)) rfl
  generalize ((w.alloc (.cells vs.toArray 31)).alloc (.cells #[.int .i64 0, .int .i64 0, .int .i64 0, .int .i64 0, .int .i64 0, .int .u32 0, .int .u32 0, .int .u32 0, .int .u32 0] 37)) = W0 at *
  have hu := Try.underlying31
  go_region_held3 (fun w' => w'.rangeAt w.heap.size 0 vs) (first | (with_reducible exact Box.range kB) | (with_reducible exact Box.range (Box.drew' B0.out)) | fail)
    (first | (go_at_call 79; refine (hget _).mono ?_; rintro e wa ⟨rfl, hba⟩; have kB := Box.below (Box.drew' B0.out) hba B0.out.lt) | (go_at_call 75; refine (hdg _ kB).mono ?_; rintro e wb ⟨rfl, rfl⟩) | fail)
  have kD := (below_drew hb0).trans (hba.mono hb0.size)
  have kR := (Box.drew' R0.out).below hba R0.out.lt
  clear hget hdg B0 R0 hba hb0 hu hin h1
  go_wp2_with (refine wpList_box_store rfl 37 _ _ rfl (w.heap.size + 1) rfl zR.toList rfl _ _ kR rfl infoRF zR_one ?_; intro X hX)
  exact bodyPost_ret (v := .tuple #[zeroF.ref, .int .i64 20]) (results_cell_slot Try.results17 _ _ _ _ rfl (box_load (vs := zR.toList) _ hX.box Try.underlying37 rfl infoRF)) rfl ⟨rfl, kD.trans (hX.below _ (by omega))⟩

/-- What is known in the midst of Open. -/
structure St (w W : World) (vs : List Value) : Prop where
  b : Box W w.heap.size 31 vs.toArray
  r : Box W (w.heap.size + 1) 37 zR
  d : Below w.heap.size w W
theorem St.call {w W W' : World} {vs : List Value} (h : St w W vs) (hb : Below W.heap.size W W') : St w W' vs := ⟨h.b.below hb h.b.lt, h.r.below hb h.r.lt, h.d.trans (hb.mono h.d.size)⟩
theorem St.drew {w W : World} {vs : List Value} (h : St w W vs) : St w W.drew vs := ⟨h.b, h.r, below_drew h.d⟩
theorem St.alloc {w W : World} {vs : List Value} (h : St w W vs) (o : Obj) : St w (W.alloc o) vs := h.call ((Below.refl _ _).alloc (Nat.le_refl _) _)
theorem St.two {w W : World} {vs : List Value} (h : St w W vs) : W.rangeAt w.heap.size 0 vs ∧ W.cell? ⟨w.heap.size + 1, 0, none⟩ = some (.int .i64 0) := ⟨h.b.range, h.r.at_ rfl⟩
theorem St.fill {w W X : World} {vs us : List Value} {g : Nat} {t : TypeId} (h : St w W vs) (hX : Filled g t us W X) (hg : w.heap.size + 1 < g) : St w X vs :=
  ⟨h.b.kept hX.other (by omega), h.r.kept hX.other (by omega), h.d.trans (hX.below _ (by omega))⟩
structure SF (w W : World) (vs : List Value) (g : Nat) (C : Array Value) : Prop where
  s : St w W vs
  f : Box W g 37 C
  lt : w.heap.size + 1 < g
theorem SF.call {w W W' : World} {vs : List Value} {g : Nat} {C : Array Value} (h : SF w W vs g C) (hb : Below W.heap.size W W') : SF w W' vs g C := ⟨h.s.call hb, h.f.below hb h.f.lt, h.lt⟩
theorem SF.new {w W : World} {vs : List Value} (h : St w W vs) : SF w (W.alloc (.cells zR 37)) vs W.heap.size zR := ⟨h.alloc _, Box.new _ _ _, h.r.lt⟩
theorem SF.newD {w W : World} {vs : List Value} (h : St w W vs) : SF w (W.alloc (.cells zR 37)).drew vs W.heap.size zR := ⟨(h.alloc _).drew, (Box.new W 37 zR).drew', h.r.lt⟩
theorem SF.fill {w W X : World} {vs us : List Value} {g : Nat} {C : Array Value} (h : SF w W vs g C) (hX : Filled g 37 us W X) : SF w X vs g us.toArray := ⟨h.s.fill hX h.lt, hX.box, h.lt⟩
theorem SF.set {w W : World} {vs : List Value} {g i : Nat} {C D : Array Value} {v : Value} (e : C.setIfInBounds i v = D) (h : SF w W vs g C) : SF w (W.setCell ⟨g, i, none⟩ v) vs g D := by
  subst e
  have hl := h.lt
  exact ⟨⟨h.s.b.at' (by omega), h.s.r.at' (by omega), h.s.d.setCell (p := ⟨g, i, none⟩) (by simp; omega) _⟩, h.f.set _, h.lt⟩
theorem step_box_store {P : Program} {ops : Array Oper} {o : Oper} {a : Act} {w : World} {K : Act → World → Prop} {Q : Exit → Act → World → Prop} {E : Prop} (hgd : o.guard = none) (ty : TypeId) (x y : Operand) (ho : o.op = .store ty x y)
    (g : Nat) (hx : a.eval x = .pointer (some ⟨g, 0, none⟩)) (vs : List Value) (hy : a.eval y = .agg vs.toArray) (t : TypeId) (cs : Array Value) (hB : Box w g t cs) (hl : cs.size = vs.length)
    (hi : (P.info? ty).map (·.size) = some vs.length) (h1 : ∀ v ∈ vs, v.oneCell' = true) (h : ∀ X, Filled g t vs w X → K (a.put o.dst undef) X) : if Region.wanted o (yielded ops a.tmps) = true then Oper.wp P o a w K Q else E := by
  rw [if_pos (by simp [Region.wanted, hgd])]
  exact wp_store_mid ty x y ho g 0 vs.toArray hx hy (by rw [List.size_toArray]; exact hB.there _ (by omega)) (by rw [List.size_toArray]; exact hi) (all_oneCell_toArray h1) (h _ (filled hB vs hl))
/-- The cells of the frame that is read, with k values. -/
def partU (l : List Nat) (k : Nat) : List Value :=
  [.int .i64 (nat l 0 2), .int .i64 (nat l 2 1), .int .i64 (nat l 3 1), .int .i64 (nat l 4 4), .int .i64 (nat l 8 6), .int .u32 (if 0 < k then nat l 16 4 else 0 : Nat), .int .u32 (if 1 < k then nat l 20 4 else 0 : Nat), .int .u32 (if 2 < k then nat l 24 4 else 0 : Nat), .int .u32 (if 3 < k then nat l 28 4 else 0 : Nat)]
theorem partU_one (l : List Nat) (k : Nat) : ∀ v ∈ partU l k, v.oneCell' = true := by
  intro v hv
  simp [partU] at hv
  rcases hv with rfl | rfl | rfl | rfl | rfl | rfl | rfl | rfl | rfl <;> rfl

theorem partU_set (l : List Nat) (k : Nat) (hk : k < 4) : (partU l k).toArray.setIfInBounds (5 + k) (.int .u32 (nat l (16 + 4 * k) 4 : Nat)) = (partU l (k + 1)).toArray := by
  rcases k with _ | _ | _ | _ | k
  · simp [partU]
  · simp [partU]
  · simp [partU]
  · simp [partU]
  · omega
theorem partU_at (l : List Nat) (k : Nat) (hk : k < 4) : ∃ v, (partU l k).toArray[5 + k]? = some v := by
  rcases k with _ | _ | _ | _ | k
  · exact ⟨_, rfl⟩
  · exact ⟨_, rfl⟩
  · exact ⟨_, rfl⟩
  · exact ⟨_, rfl⟩
  · omega
theorem partR_one (f : Fr) : ∀ v ∈ (partR f).toList, v.oneCell' = true := by
  intro v hv
  simp [partR] at hv
  rcases hv with rfl | rfl | rfl | rfl | rfl | rfl | rfl | rfl | rfl <;> rfl
theorem formed_all {l : List Nat} (h : ∀ j, j < 4 → vb (nat l (16 + 4 * j) 4) = nat l (16 + 4 * j) 4) : formed (readF l) := ⟨h 0 (by decide), h 1 (by decide), h 2 (by decide), h 3 (by decide)⟩
theorem formed_one {l : List Nat} (h : formed (readF l)) : ∀ j, j < 4 → vb (nat l (16 + 4 * j) 4) = nat l (16 + 4 * j) 4 := by
  intro j hj
  obtain ⟨a, b, c, d⟩ := h
  rcases j with _ | _ | _ | _ | j
  · exact a
  · exact b
  · exact c
  · exact d
  · omega

set_option maxHeartbeats 16000000 in
set_option maxRecDepth 100000 in
theorem refOpen_form (l : List Nat) (hl : l.length = 40) (hlt : ∀ x ∈ l, x < 256) (hs : sumOk l) (w : World) :
    Calls Try.prog 17 #[.agg (l.map byt).toArray] w fun e w' => e = .returned (.tuple #[(openF l).ref, .int .i64 (openE l)]) ∧ Below w.heap.size w w' := by
  have HL := Lib.hid hl
  have hg : ∀ (i m : Nat), i + m ≤ 40 → m ≤ 8 → ∀ W, Calls Try.prog 79 #[.agg (l.map byt).toArray, .int .i64 i, .int .i64 m] W fun e w' => e = .returned (.int .u64 (nat l i m : Int)) ∧ Below W.heap.size W w' := fun i m h1 h2 W => refGet_any l i m hl hlt h1 h2 W
  have hvl : (l.map byt).length = 40 := by rw [List.length_map, hl]
  have hin := infoR (n := (l.map byt).length) hvl
  have h1 := byt_one l
  have hl32 := cut_len (l := l) (i := 0) (m := 32) (by rw [hl]; decide)
  have hdg := fun (W : World) (hB : Box W w.heap.size 31 (l.map byt).toArray) => refDigest_s 11 (by decide) _ (cut l 0 32) 40 _ hl32 W (bytes_box hB hlt 0 32 (by rw [hl]; decide)) (by rw [hl32]; decide)
  have hdd : dg 11 (cut l 0 32) = nat l 32 8 := by
    rw [cut_zero]
    exact hs.symm
  rw [hdd] at hdg
  obtain ⟨hs1, hs2, hs3, hs4, hs5, hs6, hs7, hs8, hs9⟩ := readF_small hlt
  have HSUM := Lib.hid hs
  have hget := hg 32 8 (by decide) (by decide)
  have g0 : ∀ W, Calls Try.prog 79 #[.agg (l.map byt).toArray, .int .i64 0, .int .i64 2] W fun e w' => e = .returned (.int .u64 (nat l 0 2 : Int)) ∧ Below W.heap.size W w' := hg 0 2 (by decide) (by decide)
  have g1 : ∀ W, Calls Try.prog 79 #[.agg (l.map byt).toArray, .int .i64 2, .int .i64 1] W fun e w' => e = .returned (.int .u64 (nat l 2 1 : Int)) ∧ Below W.heap.size W w' := hg 2 1 (by decide) (by decide)
  have g2 : ∀ W, Calls Try.prog 79 #[.agg (l.map byt).toArray, .int .i64 3, .int .i64 1] W fun e w' => e = .returned (.int .u64 (nat l 3 1 : Int)) ∧ Below W.heap.size W w' := hg 3 1 (by decide) (by decide)
  have g3 : ∀ W, Calls Try.prog 79 #[.agg (l.map byt).toArray, .int .i64 4, .int .i64 4] W fun e w' => e = .returned (.int .u64 (nat l 4 4 : Int)) ∧ Below W.heap.size W w' := hg 4 4 (by decide) (by decide)
  have g4 : ∀ W, Calls Try.prog 79 #[.agg (l.map byt).toArray, .int .i64 8, .int .i64 6] W fun e w' => e = .returned (.int .u64 (nat l 8 6 : Int)) ∧ Below W.heap.size W w' := hg 8 6 (by decide) (by decide)
  have e0 : IntKind.i64.wrap (nat l 0 2 : Int) = (nat l 0 2 : Int) := IntWalk.i64_in _ (by have : nat l 0 2 ≤ 65535 := hs1; omega)
  have e1 : IntKind.i64.wrap (nat l 2 1 : Int) = (nat l 2 1 : Int) := IntWalk.i64_in _ (by have : nat l 2 1 ≤ 255 := hs2; omega)
  have e2 : IntKind.i64.wrap (nat l 3 1 : Int) = (nat l 3 1 : Int) := IntWalk.i64_in _ (by have : nat l 3 1 ≤ 255 := hs3; omega)
  have e3 : IntKind.i64.wrap (nat l 4 4 : Int) = (nat l 4 4 : Int) := IntWalk.i64_in _ (by have : nat l 4 4 ≤ 4294967295 := hs4; omega)
  have e4 : IntKind.i64.wrap (nat l 8 6 : Int) = (nat l 8 6 : Int) := IntWalk.i64_in _ (by have : nat l 8 6 < 281474976710656 := hs5; omega)
  have HG := Lib.hid hg
  clear hl hl32 hs hdd hg
  generalize hda : nat l 32 8 = a at *
  clear hda
  generalize hvs : l.map byt = vs at *
  have HVS := Lib.hid hvs
  clear hvs
  go_enter Try.func17, Try.ntmps17
  go_wp2
  obtain ⟨B0, R0, hb0⟩ := base8 vs.toArray w ((w.alloc (.cells vs.toArray 31)).alloc (.cells #[.int .i64 0, .int .i64 0, .int .i64 0, .int .i64 0, .int .i64 0, .int .u32 0, .int .u32 0, .int .u32 0, .int .u32 0] 37)) rfl
  generalize ((w.alloc (.cells vs.toArray 31)).alloc (.cells #[.int .i64 0, .int .i64 0, .int .i64 0, .int .i64 0, .int .i64 0, .int .u32 0, .int .u32 0, .int .u32 0, .int .u32 0] 37)) = W0 at *
  have hu := Try.underlying31
  have k0 : St w W0 vs := ⟨B0.out, R0.out, hb0⟩
  clear B0 R0 hb0
  have k1 := k0.drew
  go_region_held3 (fun w' => w'.rangeAt w.heap.size 0 vs) (first | (with_reducible exact Box.range (St.b k1)) | fail)
    (first | (go_at_call 79; refine (hget _).mono ?_; rintro e wa ⟨rfl, hba⟩; have k1 := St.call k1 hba; clear hba) | (go_at_call 75; refine (hdg _ (St.b k1)).mono ?_; rintro e wb ⟨rfl, rfl⟩) | fail)
  clear hget hdg k0
  rename_i wq hH
  clear hH
  go_upto_region 3 with (fail)
  go_cut [4] (fun s4 wx => ∃ g : Nat, s4 = .pointer (some ⟨g, 0, none⟩) ∧ SF w wx vs g (partU l 0).toArray)
  case first =>
    have k0 := k1.drew
    refine wp_region_held_drew (S := fun w' => w'.rangeAt w.heap.size 0 vs) (by kernel_rfl) k0.b.range (fun hHeld => ?_)
    refine wpAnyH_take (i := 0) (v := _) rfl (by kernel_rfl) (by kernel_rfl) (by kernel_rfl) (fun _ _ _ h => h) (yieldsIf_load_mid (by rfl) _ _ rfl _ _ rfl _ _ (fun _ h => h) hu rfl hin) hHeld ?_
    try simp only [List.getElem_toArray, List.getElem_cons_succ, List.getElem_cons_zero, Act.put, List.setIfInBounds_toArray, List.set_cons_zero, List.set_cons_succ]
    refine wpAnyH_take (i := 3) (v := _) rfl (by kernel_rfl) (by kernel_rfl) (by kernel_rfl) (fun _ _ _ h => h) (yieldsIf_load_mid (by rfl) _ _ rfl _ _ rfl _ _ (fun _ h => h) hu rfl hin) hHeld ?_
    try simp only [List.getElem_toArray, List.getElem_cons_succ, List.getElem_cons_zero, Act.put, List.setIfInBounds_toArray, List.set_cons_zero, List.set_cons_succ]
    refine wpAnyH_take (i := 6) (v := _) rfl (by kernel_rfl) (by kernel_rfl) (by kernel_rfl) (fun _ _ _ h => h) (yieldsIf_load_mid (by rfl) _ _ rfl _ _ rfl _ _ (fun _ h => h) hu rfl hin) hHeld ?_
    try simp only [List.getElem_toArray, List.getElem_cons_succ, List.getElem_cons_zero, Act.put, List.setIfInBounds_toArray, List.set_cons_zero, List.set_cons_succ]
    refine wpAnyH_take (i := 9) (v := _) rfl (by kernel_rfl) (by kernel_rfl) (by kernel_rfl) (fun _ _ _ h => h) (yieldsIf_load_mid (by rfl) _ _ rfl _ _ rfl _ _ (fun _ h => h) hu rfl hin) hHeld ?_
    try simp only [List.getElem_toArray, List.getElem_cons_succ, List.getElem_cons_zero, Act.put, List.setIfInBounds_toArray, List.set_cons_zero, List.set_cons_succ]
    refine wpAnyH_take (i := 12) (v := _) rfl (by kernel_rfl) (by kernel_rfl) (by kernel_rfl) (fun _ _ _ h => h) (yieldsIf_load_mid (by rfl) _ _ rfl _ _ rfl _ _ (fun _ h => h) hu rfl hin) hHeld ?_
    try simp only [List.getElem_toArray, List.getElem_cons_succ, List.getElem_cons_zero, Act.put, List.setIfInBounds_toArray, List.set_cons_zero, List.set_cons_succ]
    refine wpAnyH_ready (rs := [1, 16]) (by kernel_rfl) (by simp) ?_
    refine AllReadyH.cons rfl (fun K hK => ?_) ?_
    · go_simp
      refine Calls.mono (g0 _) ?_
      rintro e wa ⟨rfl, hba⟩
      have q10 := k0.call hba
      clear hba k0
      dsimp only
      refine hK.out _ _ q10.b.range (fun hHeld => ?_)
      clear hK K
      try simp only [List.getElem_toArray, List.getElem_cons_succ, List.getElem_cons_zero, Act.put, List.setIfInBounds_toArray, List.set_cons_zero, List.set_cons_succ]
      refine wpAnyH_take (i := 2) (v := ?_) rfl (by kernel_rfl) (by kernel_rfl) (by kernel_rfl) (fun _ _ _ h => h) (Or.inl ⟨by rfl, ?_⟩) hHeld ?_
      rotate_left
      · intro w' _
        go_simp
        try with_reducible rfl
      try simp only [List.getElem_toArray, List.getElem_cons_succ, List.getElem_cons_zero, Act.put, List.setIfInBounds_toArray, List.set_cons_zero, List.set_cons_succ]
      refine wpAnyH_ready (rs := [4, 16]) (by kernel_rfl) (by simp) ?_
      refine AllReadyH.cons rfl (fun K hK => ?_) ?_
      · go_simp
        refine Calls.mono (g1 _) ?_
        rintro e wa ⟨rfl, hba⟩
        have q20 := q10.call hba
        clear hba q10
        dsimp only
        refine hK.out _ _ q20.b.range (fun hHeld => ?_)
        clear hK K
        try simp only [List.getElem_toArray, List.getElem_cons_succ, List.getElem_cons_zero, Act.put, List.setIfInBounds_toArray, List.set_cons_zero, List.set_cons_succ]
        refine wpAnyH_take (i := 5) (v := ?_) rfl (by kernel_rfl) (by kernel_rfl) (by kernel_rfl) (fun _ _ _ h => h) (Or.inl ⟨by rfl, ?_⟩) hHeld ?_
        rotate_left
        · intro w' _
          go_simp
          try with_reducible rfl
        try simp only [List.getElem_toArray, List.getElem_cons_succ, List.getElem_cons_zero, Act.put, List.setIfInBounds_toArray, List.set_cons_zero, List.set_cons_succ]
        refine wpAnyH_ready (rs := [7, 16]) (by kernel_rfl) (by simp) ?_
        refine AllReadyH.cons rfl (fun K hK => ?_) ?_
        · go_simp
          refine Calls.mono (g2 _) ?_
          rintro e wa ⟨rfl, hba⟩
          have q30 := q20.call hba
          clear hba q20
          dsimp only
          refine hK.out _ _ q30.b.range (fun hHeld => ?_)
          clear hK K
          try simp only [List.getElem_toArray, List.getElem_cons_succ, List.getElem_cons_zero, Act.put, List.setIfInBounds_toArray, List.set_cons_zero, List.set_cons_succ]
          refine wpAnyH_take (i := 8) (v := ?_) rfl (by kernel_rfl) (by kernel_rfl) (by kernel_rfl) (fun _ _ _ h => h) (Or.inl ⟨by rfl, ?_⟩) hHeld ?_
          rotate_left
          · intro w' _
            go_simp
            try with_reducible rfl
          try simp only [List.getElem_toArray, List.getElem_cons_succ, List.getElem_cons_zero, Act.put, List.setIfInBounds_toArray, List.set_cons_zero, List.set_cons_succ]
          refine wpAnyH_ready (rs := [10, 16]) (by kernel_rfl) (by simp) ?_
          refine AllReadyH.cons rfl (fun K hK => ?_) ?_
          · go_simp
            refine Calls.mono (g3 _) ?_
            rintro e wa ⟨rfl, hba⟩
            have q40 := q30.call hba
            clear hba q30
            dsimp only
            refine hK.out _ _ q40.b.range (fun hHeld => ?_)
            clear hK K
            try simp only [List.getElem_toArray, List.getElem_cons_succ, List.getElem_cons_zero, Act.put, List.setIfInBounds_toArray, List.set_cons_zero, List.set_cons_succ]
            refine wpAnyH_take (i := 11) (v := ?_) rfl (by kernel_rfl) (by kernel_rfl) (by kernel_rfl) (fun _ _ _ h => h) (Or.inl ⟨by rfl, ?_⟩) hHeld ?_
            rotate_left
            · intro w' _
              go_simp
              try with_reducible rfl
            try simp only [List.getElem_toArray, List.getElem_cons_succ, List.getElem_cons_zero, Act.put, List.setIfInBounds_toArray, List.set_cons_zero, List.set_cons_succ]
            refine wpAnyH_ready (rs := [13, 16]) (by kernel_rfl) (by simp) ?_
            refine AllReadyH.cons rfl (fun K hK => ?_) ?_
            · go_simp
              refine Calls.mono (g4 _) ?_
              rintro e wa ⟨rfl, hba⟩
              have q50 := q40.call hba
              clear hba q40
              dsimp only
              refine hK.out _ _ q50.b.range (fun hHeld => ?_)
              clear hK K
              try simp only [List.getElem_toArray, List.getElem_cons_succ, List.getElem_cons_zero, Act.put, List.setIfInBounds_toArray, List.set_cons_zero, List.set_cons_succ]
              refine wpAnyH_take (i := 14) (v := ?_) rfl (by kernel_rfl) (by kernel_rfl) (by kernel_rfl) (fun _ _ _ h => h) (Or.inl ⟨by rfl, ?_⟩) hHeld ?_
              rotate_left
              · intro w' _
                go_simp
                try with_reducible rfl
              try simp only [List.getElem_toArray, List.getElem_cons_succ, List.getElem_cons_zero, Act.put, List.setIfInBounds_toArray, List.set_cons_zero, List.set_cons_succ]
              refine wpAnyH_take (i := 15) (v := ?_) rfl (by kernel_rfl) (by kernel_rfl) (by kernel_rfl) (fun _ _ _ h => h) (Or.inl ⟨by rfl, ?_⟩) hHeld ?_
              rotate_left
              · intro w' _
                go_simp
                try with_reducible rfl
              try simp only [List.getElem_toArray, List.getElem_cons_succ, List.getElem_cons_zero, Act.put, List.setIfInBounds_toArray, List.set_cons_zero, List.set_cons_succ]
              refine wpAnyH_ready (rs := [16]) (by kernel_rfl) (by simp) ?_
              refine AllReadyH.cons rfl (fun K hK => ?_) ?_
              · go_simp
                have q51 := SF.new q50
                clear q50
                refine hK.out _ _ q51.s.b.range (fun hHeld => ?_)
                clear hK K
                try simp only [List.getElem_toArray, List.getElem_cons_succ, List.getElem_cons_zero, Act.put, List.setIfInBounds_toArray, List.set_cons_zero, List.set_cons_succ]
                refine wpAnyH_ready (rs := [17]) (by kernel_rfl) (by simp) ?_
                refine AllReadyH.cons rfl (fun K hK => ?_) ?_
                · refine step_box_store (by rfl) 37 _ _ (by rfl) _ (by rfl) (partU l 0) (by rfl) _ _ (SF.f q51) (by rfl) infoRF (partU_one l 0) ?_
                  intro X hX
                  have kz := SF.fill q51 hX
                  clear hX q51
                  refine hK.out _ _ kz.s.b.range (fun hHeld => ?_)
                  clear hK K
                  refine wpAnyH_done (by kernel_rfl) ?_ _
                  go_wp2_with fail
                  go_meet
                  exact ⟨_, rfl, kz⟩
                exact AllReadyH.nil
              exact AllReadyH.nil
            refine AllReadyH.cons rfl (fun K hK => ?_) ?_
            · go_simp
              have q41 := SF.new q40
              clear q40
              refine hK.out _ _ q41.s.b.range (fun hHeld => ?_)
              clear hK K
              try simp only [List.getElem_toArray, List.getElem_cons_succ, List.getElem_cons_zero, Act.put, List.setIfInBounds_toArray, List.set_cons_zero, List.set_cons_succ]
              refine wpAnyH_ready (rs := [13]) (by kernel_rfl) (by simp) ?_
              refine AllReadyH.cons rfl (fun K hK => ?_) ?_
              · go_simp
                refine Calls.mono (g4 _) ?_
                rintro e wa ⟨rfl, hba⟩
                have q51 := q41.call hba
                clear hba q41
                dsimp only
                refine hK.out _ _ q51.s.b.range (fun hHeld => ?_)
                clear hK K
                try simp only [List.getElem_toArray, List.getElem_cons_succ, List.getElem_cons_zero, Act.put, List.setIfInBounds_toArray, List.set_cons_zero, List.set_cons_succ]
                refine wpAnyH_take (i := 14) (v := ?_) rfl (by kernel_rfl) (by kernel_rfl) (by kernel_rfl) (fun _ _ _ h => h) (Or.inl ⟨by rfl, ?_⟩) hHeld ?_
                rotate_left
                · intro w' _
                  go_simp
                  try with_reducible rfl
                try simp only [List.getElem_toArray, List.getElem_cons_succ, List.getElem_cons_zero, Act.put, List.setIfInBounds_toArray, List.set_cons_zero, List.set_cons_succ]
                refine wpAnyH_take (i := 15) (v := ?_) rfl (by kernel_rfl) (by kernel_rfl) (by kernel_rfl) (fun _ _ _ h => h) (Or.inl ⟨by rfl, ?_⟩) hHeld ?_
                rotate_left
                · intro w' _
                  go_simp
                  try with_reducible rfl
                try simp only [List.getElem_toArray, List.getElem_cons_succ, List.getElem_cons_zero, Act.put, List.setIfInBounds_toArray, List.set_cons_zero, List.set_cons_succ]
                refine wpAnyH_ready (rs := [17]) (by kernel_rfl) (by simp) ?_
                refine AllReadyH.cons rfl (fun K hK => ?_) ?_
                · refine step_box_store (by rfl) 37 _ _ (by rfl) _ (by rfl) (partU l 0) (by rfl) _ _ (SF.f q51) (by rfl) infoRF (partU_one l 0) ?_
                  intro X hX
                  have kz := SF.fill q51 hX
                  clear hX q51
                  refine hK.out _ _ kz.s.b.range (fun hHeld => ?_)
                  clear hK K
                  refine wpAnyH_done (by kernel_rfl) ?_ _
                  go_wp2_with fail
                  go_meet
                  exact ⟨_, rfl, kz⟩
                exact AllReadyH.nil
              exact AllReadyH.nil
            exact AllReadyH.nil
          refine AllReadyH.cons rfl (fun K hK => ?_) ?_
          · go_simp
            have q31 := SF.new q30
            clear q30
            refine hK.out _ _ q31.s.b.range (fun hHeld => ?_)
            clear hK K
            try simp only [List.getElem_toArray, List.getElem_cons_succ, List.getElem_cons_zero, Act.put, List.setIfInBounds_toArray, List.set_cons_zero, List.set_cons_succ]
            refine wpAnyH_ready (rs := [10]) (by kernel_rfl) (by simp) ?_
            refine AllReadyH.cons rfl (fun K hK => ?_) ?_
            · go_simp
              refine Calls.mono (g3 _) ?_
              rintro e wa ⟨rfl, hba⟩
              have q41 := q31.call hba
              clear hba q31
              dsimp only
              refine hK.out _ _ q41.s.b.range (fun hHeld => ?_)
              clear hK K
              try simp only [List.getElem_toArray, List.getElem_cons_succ, List.getElem_cons_zero, Act.put, List.setIfInBounds_toArray, List.set_cons_zero, List.set_cons_succ]
              refine wpAnyH_take (i := 11) (v := ?_) rfl (by kernel_rfl) (by kernel_rfl) (by kernel_rfl) (fun _ _ _ h => h) (Or.inl ⟨by rfl, ?_⟩) hHeld ?_
              rotate_left
              · intro w' _
                go_simp
                try with_reducible rfl
              try simp only [List.getElem_toArray, List.getElem_cons_succ, List.getElem_cons_zero, Act.put, List.setIfInBounds_toArray, List.set_cons_zero, List.set_cons_succ]
              refine wpAnyH_ready (rs := [13]) (by kernel_rfl) (by simp) ?_
              refine AllReadyH.cons rfl (fun K hK => ?_) ?_
              · go_simp
                refine Calls.mono (g4 _) ?_
                rintro e wa ⟨rfl, hba⟩
                have q51 := q41.call hba
                clear hba q41
                dsimp only
                refine hK.out _ _ q51.s.b.range (fun hHeld => ?_)
                clear hK K
                try simp only [List.getElem_toArray, List.getElem_cons_succ, List.getElem_cons_zero, Act.put, List.setIfInBounds_toArray, List.set_cons_zero, List.set_cons_succ]
                refine wpAnyH_take (i := 14) (v := ?_) rfl (by kernel_rfl) (by kernel_rfl) (by kernel_rfl) (fun _ _ _ h => h) (Or.inl ⟨by rfl, ?_⟩) hHeld ?_
                rotate_left
                · intro w' _
                  go_simp
                  try with_reducible rfl
                try simp only [List.getElem_toArray, List.getElem_cons_succ, List.getElem_cons_zero, Act.put, List.setIfInBounds_toArray, List.set_cons_zero, List.set_cons_succ]
                refine wpAnyH_take (i := 15) (v := ?_) rfl (by kernel_rfl) (by kernel_rfl) (by kernel_rfl) (fun _ _ _ h => h) (Or.inl ⟨by rfl, ?_⟩) hHeld ?_
                rotate_left
                · intro w' _
                  go_simp
                  try with_reducible rfl
                try simp only [List.getElem_toArray, List.getElem_cons_succ, List.getElem_cons_zero, Act.put, List.setIfInBounds_toArray, List.set_cons_zero, List.set_cons_succ]
                refine wpAnyH_ready (rs := [17]) (by kernel_rfl) (by simp) ?_
                refine AllReadyH.cons rfl (fun K hK => ?_) ?_
                · refine step_box_store (by rfl) 37 _ _ (by rfl) _ (by rfl) (partU l 0) (by rfl) _ _ (SF.f q51) (by rfl) infoRF (partU_one l 0) ?_
                  intro X hX
                  have kz := SF.fill q51 hX
                  clear hX q51
                  refine hK.out _ _ kz.s.b.range (fun hHeld => ?_)
                  clear hK K
                  refine wpAnyH_done (by kernel_rfl) ?_ _
                  go_wp2_with fail
                  go_meet
                  exact ⟨_, rfl, kz⟩
                exact AllReadyH.nil
              exact AllReadyH.nil
            exact AllReadyH.nil
          exact AllReadyH.nil
        refine AllReadyH.cons rfl (fun K hK => ?_) ?_
        · go_simp
          have q21 := SF.new q20
          clear q20
          refine hK.out _ _ q21.s.b.range (fun hHeld => ?_)
          clear hK K
          try simp only [List.getElem_toArray, List.getElem_cons_succ, List.getElem_cons_zero, Act.put, List.setIfInBounds_toArray, List.set_cons_zero, List.set_cons_succ]
          refine wpAnyH_ready (rs := [7]) (by kernel_rfl) (by simp) ?_
          refine AllReadyH.cons rfl (fun K hK => ?_) ?_
          · go_simp
            refine Calls.mono (g2 _) ?_
            rintro e wa ⟨rfl, hba⟩
            have q31 := q21.call hba
            clear hba q21
            dsimp only
            refine hK.out _ _ q31.s.b.range (fun hHeld => ?_)
            clear hK K
            try simp only [List.getElem_toArray, List.getElem_cons_succ, List.getElem_cons_zero, Act.put, List.setIfInBounds_toArray, List.set_cons_zero, List.set_cons_succ]
            refine wpAnyH_take (i := 8) (v := ?_) rfl (by kernel_rfl) (by kernel_rfl) (by kernel_rfl) (fun _ _ _ h => h) (Or.inl ⟨by rfl, ?_⟩) hHeld ?_
            rotate_left
            · intro w' _
              go_simp
              try with_reducible rfl
            try simp only [List.getElem_toArray, List.getElem_cons_succ, List.getElem_cons_zero, Act.put, List.setIfInBounds_toArray, List.set_cons_zero, List.set_cons_succ]
            refine wpAnyH_ready (rs := [10]) (by kernel_rfl) (by simp) ?_
            refine AllReadyH.cons rfl (fun K hK => ?_) ?_
            · go_simp
              refine Calls.mono (g3 _) ?_
              rintro e wa ⟨rfl, hba⟩
              have q41 := q31.call hba
              clear hba q31
              dsimp only
              refine hK.out _ _ q41.s.b.range (fun hHeld => ?_)
              clear hK K
              try simp only [List.getElem_toArray, List.getElem_cons_succ, List.getElem_cons_zero, Act.put, List.setIfInBounds_toArray, List.set_cons_zero, List.set_cons_succ]
              refine wpAnyH_take (i := 11) (v := ?_) rfl (by kernel_rfl) (by kernel_rfl) (by kernel_rfl) (fun _ _ _ h => h) (Or.inl ⟨by rfl, ?_⟩) hHeld ?_
              rotate_left
              · intro w' _
                go_simp
                try with_reducible rfl
              try simp only [List.getElem_toArray, List.getElem_cons_succ, List.getElem_cons_zero, Act.put, List.setIfInBounds_toArray, List.set_cons_zero, List.set_cons_succ]
              refine wpAnyH_ready (rs := [13]) (by kernel_rfl) (by simp) ?_
              refine AllReadyH.cons rfl (fun K hK => ?_) ?_
              · go_simp
                refine Calls.mono (g4 _) ?_
                rintro e wa ⟨rfl, hba⟩
                have q51 := q41.call hba
                clear hba q41
                dsimp only
                refine hK.out _ _ q51.s.b.range (fun hHeld => ?_)
                clear hK K
                try simp only [List.getElem_toArray, List.getElem_cons_succ, List.getElem_cons_zero, Act.put, List.setIfInBounds_toArray, List.set_cons_zero, List.set_cons_succ]
                refine wpAnyH_take (i := 14) (v := ?_) rfl (by kernel_rfl) (by kernel_rfl) (by kernel_rfl) (fun _ _ _ h => h) (Or.inl ⟨by rfl, ?_⟩) hHeld ?_
                rotate_left
                · intro w' _
                  go_simp
                  try with_reducible rfl
                try simp only [List.getElem_toArray, List.getElem_cons_succ, List.getElem_cons_zero, Act.put, List.setIfInBounds_toArray, List.set_cons_zero, List.set_cons_succ]
                refine wpAnyH_take (i := 15) (v := ?_) rfl (by kernel_rfl) (by kernel_rfl) (by kernel_rfl) (fun _ _ _ h => h) (Or.inl ⟨by rfl, ?_⟩) hHeld ?_
                rotate_left
                · intro w' _
                  go_simp
                  try with_reducible rfl
                try simp only [List.getElem_toArray, List.getElem_cons_succ, List.getElem_cons_zero, Act.put, List.setIfInBounds_toArray, List.set_cons_zero, List.set_cons_succ]
                refine wpAnyH_ready (rs := [17]) (by kernel_rfl) (by simp) ?_
                refine AllReadyH.cons rfl (fun K hK => ?_) ?_
                · refine step_box_store (by rfl) 37 _ _ (by rfl) _ (by rfl) (partU l 0) (by rfl) _ _ (SF.f q51) (by rfl) infoRF (partU_one l 0) ?_
                  intro X hX
                  have kz := SF.fill q51 hX
                  clear hX q51
                  refine hK.out _ _ kz.s.b.range (fun hHeld => ?_)
                  clear hK K
                  refine wpAnyH_done (by kernel_rfl) ?_ _
                  go_wp2_with fail
                  go_meet
                  exact ⟨_, rfl, kz⟩
                exact AllReadyH.nil
              exact AllReadyH.nil
            exact AllReadyH.nil
          exact AllReadyH.nil
        exact AllReadyH.nil
      refine AllReadyH.cons rfl (fun K hK => ?_) ?_
      · go_simp
        have q11 := SF.new q10
        clear q10
        refine hK.out _ _ q11.s.b.range (fun hHeld => ?_)
        clear hK K
        try simp only [List.getElem_toArray, List.getElem_cons_succ, List.getElem_cons_zero, Act.put, List.setIfInBounds_toArray, List.set_cons_zero, List.set_cons_succ]
        refine wpAnyH_ready (rs := [4]) (by kernel_rfl) (by simp) ?_
        refine AllReadyH.cons rfl (fun K hK => ?_) ?_
        · go_simp
          refine Calls.mono (g1 _) ?_
          rintro e wa ⟨rfl, hba⟩
          have q21 := q11.call hba
          clear hba q11
          dsimp only
          refine hK.out _ _ q21.s.b.range (fun hHeld => ?_)
          clear hK K
          try simp only [List.getElem_toArray, List.getElem_cons_succ, List.getElem_cons_zero, Act.put, List.setIfInBounds_toArray, List.set_cons_zero, List.set_cons_succ]
          refine wpAnyH_take (i := 5) (v := ?_) rfl (by kernel_rfl) (by kernel_rfl) (by kernel_rfl) (fun _ _ _ h => h) (Or.inl ⟨by rfl, ?_⟩) hHeld ?_
          rotate_left
          · intro w' _
            go_simp
            try with_reducible rfl
          try simp only [List.getElem_toArray, List.getElem_cons_succ, List.getElem_cons_zero, Act.put, List.setIfInBounds_toArray, List.set_cons_zero, List.set_cons_succ]
          refine wpAnyH_ready (rs := [7]) (by kernel_rfl) (by simp) ?_
          refine AllReadyH.cons rfl (fun K hK => ?_) ?_
          · go_simp
            refine Calls.mono (g2 _) ?_
            rintro e wa ⟨rfl, hba⟩
            have q31 := q21.call hba
            clear hba q21
            dsimp only
            refine hK.out _ _ q31.s.b.range (fun hHeld => ?_)
            clear hK K
            try simp only [List.getElem_toArray, List.getElem_cons_succ, List.getElem_cons_zero, Act.put, List.setIfInBounds_toArray, List.set_cons_zero, List.set_cons_succ]
            refine wpAnyH_take (i := 8) (v := ?_) rfl (by kernel_rfl) (by kernel_rfl) (by kernel_rfl) (fun _ _ _ h => h) (Or.inl ⟨by rfl, ?_⟩) hHeld ?_
            rotate_left
            · intro w' _
              go_simp
              try with_reducible rfl
            try simp only [List.getElem_toArray, List.getElem_cons_succ, List.getElem_cons_zero, Act.put, List.setIfInBounds_toArray, List.set_cons_zero, List.set_cons_succ]
            refine wpAnyH_ready (rs := [10]) (by kernel_rfl) (by simp) ?_
            refine AllReadyH.cons rfl (fun K hK => ?_) ?_
            · go_simp
              refine Calls.mono (g3 _) ?_
              rintro e wa ⟨rfl, hba⟩
              have q41 := q31.call hba
              clear hba q31
              dsimp only
              refine hK.out _ _ q41.s.b.range (fun hHeld => ?_)
              clear hK K
              try simp only [List.getElem_toArray, List.getElem_cons_succ, List.getElem_cons_zero, Act.put, List.setIfInBounds_toArray, List.set_cons_zero, List.set_cons_succ]
              refine wpAnyH_take (i := 11) (v := ?_) rfl (by kernel_rfl) (by kernel_rfl) (by kernel_rfl) (fun _ _ _ h => h) (Or.inl ⟨by rfl, ?_⟩) hHeld ?_
              rotate_left
              · intro w' _
                go_simp
                try with_reducible rfl
              try simp only [List.getElem_toArray, List.getElem_cons_succ, List.getElem_cons_zero, Act.put, List.setIfInBounds_toArray, List.set_cons_zero, List.set_cons_succ]
              refine wpAnyH_ready (rs := [13]) (by kernel_rfl) (by simp) ?_
              refine AllReadyH.cons rfl (fun K hK => ?_) ?_
              · go_simp
                refine Calls.mono (g4 _) ?_
                rintro e wa ⟨rfl, hba⟩
                have q51 := q41.call hba
                clear hba q41
                dsimp only
                refine hK.out _ _ q51.s.b.range (fun hHeld => ?_)
                clear hK K
                try simp only [List.getElem_toArray, List.getElem_cons_succ, List.getElem_cons_zero, Act.put, List.setIfInBounds_toArray, List.set_cons_zero, List.set_cons_succ]
                refine wpAnyH_take (i := 14) (v := ?_) rfl (by kernel_rfl) (by kernel_rfl) (by kernel_rfl) (fun _ _ _ h => h) (Or.inl ⟨by rfl, ?_⟩) hHeld ?_
                rotate_left
                · intro w' _
                  go_simp
                  try with_reducible rfl
                try simp only [List.getElem_toArray, List.getElem_cons_succ, List.getElem_cons_zero, Act.put, List.setIfInBounds_toArray, List.set_cons_zero, List.set_cons_succ]
                refine wpAnyH_take (i := 15) (v := ?_) rfl (by kernel_rfl) (by kernel_rfl) (by kernel_rfl) (fun _ _ _ h => h) (Or.inl ⟨by rfl, ?_⟩) hHeld ?_
                rotate_left
                · intro w' _
                  go_simp
                  try with_reducible rfl
                try simp only [List.getElem_toArray, List.getElem_cons_succ, List.getElem_cons_zero, Act.put, List.setIfInBounds_toArray, List.set_cons_zero, List.set_cons_succ]
                refine wpAnyH_ready (rs := [17]) (by kernel_rfl) (by simp) ?_
                refine AllReadyH.cons rfl (fun K hK => ?_) ?_
                · refine step_box_store (by rfl) 37 _ _ (by rfl) _ (by rfl) (partU l 0) (by rfl) _ _ (SF.f q51) (by rfl) infoRF (partU_one l 0) ?_
                  intro X hX
                  have kz := SF.fill q51 hX
                  clear hX q51
                  refine hK.out _ _ kz.s.b.range (fun hHeld => ?_)
                  clear hK K
                  refine wpAnyH_done (by kernel_rfl) ?_ _
                  go_wp2_with fail
                  go_meet
                  exact ⟨_, rfl, kz⟩
                exact AllReadyH.nil
              exact AllReadyH.nil
            exact AllReadyH.nil
          exact AllReadyH.nil
        exact AllReadyH.nil
      exact AllReadyH.nil
    refine AllReadyH.cons rfl (fun K hK => ?_) ?_
    · go_simp
      have q01 := SF.newD k1
      clear k0
      refine hK.out _ _ q01.s.b.range (fun hHeld => ?_)
      clear hK K
      try simp only [List.getElem_toArray, List.getElem_cons_succ, List.getElem_cons_zero, Act.put, List.setIfInBounds_toArray, List.set_cons_zero, List.set_cons_succ]
      refine wpAnyH_ready (rs := [1]) (by kernel_rfl) (by simp) ?_
      refine AllReadyH.cons rfl (fun K hK => ?_) ?_
      · go_simp
        refine Calls.mono (g0 _) ?_
        rintro e wa ⟨rfl, hba⟩
        have q11 := q01.call hba
        clear hba q01
        dsimp only
        refine hK.out _ _ q11.s.b.range (fun hHeld => ?_)
        clear hK K
        try simp only [List.getElem_toArray, List.getElem_cons_succ, List.getElem_cons_zero, Act.put, List.setIfInBounds_toArray, List.set_cons_zero, List.set_cons_succ]
        refine wpAnyH_take (i := 2) (v := ?_) rfl (by kernel_rfl) (by kernel_rfl) (by kernel_rfl) (fun _ _ _ h => h) (Or.inl ⟨by rfl, ?_⟩) hHeld ?_
        rotate_left
        · intro w' _
          go_simp
          try with_reducible rfl
        try simp only [List.getElem_toArray, List.getElem_cons_succ, List.getElem_cons_zero, Act.put, List.setIfInBounds_toArray, List.set_cons_zero, List.set_cons_succ]
        refine wpAnyH_ready (rs := [4]) (by kernel_rfl) (by simp) ?_
        refine AllReadyH.cons rfl (fun K hK => ?_) ?_
        · go_simp
          refine Calls.mono (g1 _) ?_
          rintro e wa ⟨rfl, hba⟩
          have q21 := q11.call hba
          clear hba q11
          dsimp only
          refine hK.out _ _ q21.s.b.range (fun hHeld => ?_)
          clear hK K
          try simp only [List.getElem_toArray, List.getElem_cons_succ, List.getElem_cons_zero, Act.put, List.setIfInBounds_toArray, List.set_cons_zero, List.set_cons_succ]
          refine wpAnyH_take (i := 5) (v := ?_) rfl (by kernel_rfl) (by kernel_rfl) (by kernel_rfl) (fun _ _ _ h => h) (Or.inl ⟨by rfl, ?_⟩) hHeld ?_
          rotate_left
          · intro w' _
            go_simp
            try with_reducible rfl
          try simp only [List.getElem_toArray, List.getElem_cons_succ, List.getElem_cons_zero, Act.put, List.setIfInBounds_toArray, List.set_cons_zero, List.set_cons_succ]
          refine wpAnyH_ready (rs := [7]) (by kernel_rfl) (by simp) ?_
          refine AllReadyH.cons rfl (fun K hK => ?_) ?_
          · go_simp
            refine Calls.mono (g2 _) ?_
            rintro e wa ⟨rfl, hba⟩
            have q31 := q21.call hba
            clear hba q21
            dsimp only
            refine hK.out _ _ q31.s.b.range (fun hHeld => ?_)
            clear hK K
            try simp only [List.getElem_toArray, List.getElem_cons_succ, List.getElem_cons_zero, Act.put, List.setIfInBounds_toArray, List.set_cons_zero, List.set_cons_succ]
            refine wpAnyH_take (i := 8) (v := ?_) rfl (by kernel_rfl) (by kernel_rfl) (by kernel_rfl) (fun _ _ _ h => h) (Or.inl ⟨by rfl, ?_⟩) hHeld ?_
            rotate_left
            · intro w' _
              go_simp
              try with_reducible rfl
            try simp only [List.getElem_toArray, List.getElem_cons_succ, List.getElem_cons_zero, Act.put, List.setIfInBounds_toArray, List.set_cons_zero, List.set_cons_succ]
            refine wpAnyH_ready (rs := [10]) (by kernel_rfl) (by simp) ?_
            refine AllReadyH.cons rfl (fun K hK => ?_) ?_
            · go_simp
              refine Calls.mono (g3 _) ?_
              rintro e wa ⟨rfl, hba⟩
              have q41 := q31.call hba
              clear hba q31
              dsimp only
              refine hK.out _ _ q41.s.b.range (fun hHeld => ?_)
              clear hK K
              try simp only [List.getElem_toArray, List.getElem_cons_succ, List.getElem_cons_zero, Act.put, List.setIfInBounds_toArray, List.set_cons_zero, List.set_cons_succ]
              refine wpAnyH_take (i := 11) (v := ?_) rfl (by kernel_rfl) (by kernel_rfl) (by kernel_rfl) (fun _ _ _ h => h) (Or.inl ⟨by rfl, ?_⟩) hHeld ?_
              rotate_left
              · intro w' _
                go_simp
                try with_reducible rfl
              try simp only [List.getElem_toArray, List.getElem_cons_succ, List.getElem_cons_zero, Act.put, List.setIfInBounds_toArray, List.set_cons_zero, List.set_cons_succ]
              refine wpAnyH_ready (rs := [13]) (by kernel_rfl) (by simp) ?_
              refine AllReadyH.cons rfl (fun K hK => ?_) ?_
              · go_simp
                refine Calls.mono (g4 _) ?_
                rintro e wa ⟨rfl, hba⟩
                have q51 := q41.call hba
                clear hba q41
                dsimp only
                refine hK.out _ _ q51.s.b.range (fun hHeld => ?_)
                clear hK K
                try simp only [List.getElem_toArray, List.getElem_cons_succ, List.getElem_cons_zero, Act.put, List.setIfInBounds_toArray, List.set_cons_zero, List.set_cons_succ]
                refine wpAnyH_take (i := 14) (v := ?_) rfl (by kernel_rfl) (by kernel_rfl) (by kernel_rfl) (fun _ _ _ h => h) (Or.inl ⟨by rfl, ?_⟩) hHeld ?_
                rotate_left
                · intro w' _
                  go_simp
                  try with_reducible rfl
                try simp only [List.getElem_toArray, List.getElem_cons_succ, List.getElem_cons_zero, Act.put, List.setIfInBounds_toArray, List.set_cons_zero, List.set_cons_succ]
                refine wpAnyH_take (i := 15) (v := ?_) rfl (by kernel_rfl) (by kernel_rfl) (by kernel_rfl) (fun _ _ _ h => h) (Or.inl ⟨by rfl, ?_⟩) hHeld ?_
                rotate_left
                · intro w' _
                  go_simp
                  try with_reducible rfl
                try simp only [List.getElem_toArray, List.getElem_cons_succ, List.getElem_cons_zero, Act.put, List.setIfInBounds_toArray, List.set_cons_zero, List.set_cons_succ]
                refine wpAnyH_ready (rs := [17]) (by kernel_rfl) (by simp) ?_
                refine AllReadyH.cons rfl (fun K hK => ?_) ?_
                · refine step_box_store (by rfl) 37 _ _ (by rfl) _ (by rfl) (partU l 0) (by rfl) _ _ (SF.f q51) (by rfl) infoRF (partU_one l 0) ?_
                  intro X hX
                  have kz := SF.fill q51 hX
                  clear hX q51
                  refine hK.out _ _ kz.s.b.range (fun hHeld => ?_)
                  clear hK K
                  refine wpAnyH_done (by kernel_rfl) ?_ _
                  go_wp2_with fail
                  go_meet
                  exact ⟨_, rfl, kz⟩
                exact AllReadyH.nil
              exact AllReadyH.nil
            exact AllReadyH.nil
          exact AllReadyH.nil
        exact AllReadyH.nil
      exact AllReadyH.nil
    exact AllReadyH.nil
  case rest =>
    clear e0 e1 e2 e3 e4 g0 g1 g2 g3 g4 hu k1
    obtain ⟨g, rfl, hSF⟩ := hcut
    have Hin := Lib.hid hin
    have HV4 := Lib.hid hvl
    have HONE := Lib.hid h1
    clear hin hvl h1
    go_wp2_with fail
    go_loopw [5] (fun x wr => ∃ k : Nat, k ≤ 4 ∧ x = .int .i64 k ∧ SF w wr vs g (partU l k).toArray ∧ ∀ j, j < k → vb (nat l (16 + 4 * j) 4) = nat l (16 + 4 * j) 4) (fun x _ => 4 - (intOf x).toNat)
    case atStart => exact ⟨0, Nat.zero_le _, rfl, hSF, fun j hj => absurd hj (Nat.not_lt_zero _)⟩
    case round =>
      clear hSF
      obtain ⟨k, hk, rfl, hF, hform⟩ := hrel
      have HFO := Lib.hid hform
      clear hform
      by_cases hlt4 : k < 4
      · have hcall : ∀ W, Calls Try.prog 79 #[.agg vs.toArray, .int .i64 (16 + 4 * (k : Int)), .int .i64 4] W fun e w' => e = .returned (.int .u64 (nat l (16 + 4 * k) 4 : Int)) ∧ Below W.heap.size W w' := HG.out (16 + 4 * k) 4 (by omega) (by decide)
        have hv : nat l (16 + 4 * k) 4 < 4294967296 := nat_lt hlt _ _
        have HPS := Lib.hid (partU_set l k hlt4)
        have HFN := Lib.hid (formed_nan (nat l (16 + 4 * k) 4))
        obtain ⟨vv, hvv⟩ := partU_at l k hlt4
        have HVV := Lib.hid hvv
        clear hvv
        have HFO2 : Hid (vb (nat l (16 + 4 * k) 4) = nat l (16 + 4 * k) 4 → ∀ j, j < k + 1 → vb (nat l (16 + 4 * j) 4) = nat l (16 + 4 * j) 4) := Lib.hid fun hk1 j hj => by
          by_cases hjk : j = k
          · rw [hjk]; exact hk1
          · exact HFO.out j (by omega)
        have HBad : Hid (¬ vb (nat l (16 + 4 * k) 4) = nat l (16 + 4 * k) 4 → openE l = 2 ∧ openF l = zeroF) := Lib.hid fun hbad => by
          have hno : ¬ openOk l := fun h => hbad (formed_one ((openOk_ref hlt).1 h).2.1 k hlt4)
          exact ⟨by unfold openE; rw [if_pos HSUM.out, if_neg hno], by unfold openF; rw [if_neg hno]⟩
        generalize nat l (16 + 4 * k) 4 = v at *
        have hnan := fun (W : World) => nan_any v hv W
        cases hn : nanB v with
        | false =>
          have HV := Lib.hid (HFN.out.2 fun h => by rw [hn] at h; exact absurd h.1 (by decide))
          rw [hn] at hnan
          clear hn
          go_wp2_with (refine wpList_box_load rfl 31 _ rfl w.heap.size rfl _ vs _ hF.s.b Try.underlying31 rfl Hin.out ?_)
          refine (hcall _).mono ?_
          rintro e wa ⟨rfl, hba⟩
          have hF2 := hF.call hba
          have c5 := hF2.f.at_ HVV.out
          have f5 := hF2.f.free (5 + k)
          clear hF hba
          go_wp2_with fail
          refine (hnan _).mono ?_
          rintro e w' ⟨rfl, rfl⟩
          go_wp2_with fail
          go_roundw
          case rel => exact ⟨k + 1, by omega, by go_num, SF.set HPS.out hF2, HFO2.out HV.out⟩
          case measure => simp [intOf]; omega
        | true =>
          rw [hn] at hnan
          by_cases hcn : v = 2143289344
          · have HV := Lib.hid (HFN.out.2 fun h => h.2 hcn)
            have hne : ((v : Int) != 2143289344) = false := by rw [hcn]; rfl
            clear hn hcn
            go_wp2_with (refine wpList_box_load rfl 31 _ rfl w.heap.size rfl _ vs _ hF.s.b Try.underlying31 rfl Hin.out ?_)
            refine (hcall _).mono ?_
            rintro e wa ⟨rfl, hba⟩
            have hF2 := hF.call hba
            have c5 := hF2.f.at_ HVV.out
            have f5 := hF2.f.free (5 + k)
            clear hF hba
            go_wp2_with fail
            refine (hnan _).mono ?_
            rintro e w' ⟨rfl, rfl⟩
            go_wp2_with fail
            go_roundw
            case rel => exact ⟨k + 1, by omega, by go_num, SF.set HPS.out hF2, HFO2.out HV.out⟩
            case measure => simp [intOf]; omega
          · have HE := Lib.hid (HBad.out fun h => (HFN.out.1 h) ⟨hn, hcn⟩)
            have hne : ((v : Int) != 2143289344) = true := by rw [bne_iff_ne]; omega
            clear hn hcn
            go_wp2_with (refine wpList_box_load rfl 31 _ rfl w.heap.size rfl _ vs _ hF.s.b Try.underlying31 rfl Hin.out ?_)
            refine (hcall _).mono ?_
            rintro e wa ⟨rfl, hba⟩
            have hF2 := hF.call hba
            have c5 := hF2.f.at_ HVV.out
            have f5 := hF2.f.free (5 + k)
            clear hF hba
            go_wp2_with fail
            refine (hnan _).mono ?_
            rintro e w' ⟨rfl, rfl⟩
            have hF3 := SF.set HPS.out hF2
            clear hF2
            go_wp2_with (refine wpList_box_store rfl 37 _ _ rfl (w.heap.size + 1) rfl zR.toList rfl _ _ hF3.s.r rfl infoRF zR_one ?_; intro X hX)
            exact bodyPost_ret (v := .tuple #[zeroF.ref, .int .i64 2]) (results_cell_slot Try.results17 _ _ _ _ rfl (box_load (vs := zR.toList) _ hX.box Try.underlying37 rfl infoRF)) rfl ⟨by rw [HE.out.1, HE.out.2], hF3.s.d.trans (hX.below _ (by omega))⟩
      · obtain rfl : k = 4 := by omega
        have hfm := formed_all HFO.out
        have hpr : (partU l 4).toArray = partR (readF l) := rfl
        rw [hpr] at hF
        have hz1 := hF.lt
        obtain ⟨hs1, hs2, hs3, hs4, hs5, hs6, hs7, hs8, hs9⟩ := readF_small hlt
        by_cases hc : (readF l).cl ≤ 1099511627776
        · have hok : FrOk (readF l) := ⟨hs1, hs2, hs3, hs4, hc, hs6, hs7, hs8, hs9⟩
          have hseal := fun (W : World) => refSeal_yes (readF l) W hok
          have hm40 := block'_len (readF l)
          have hmlt := block'_lt (readF l)
          have hml : ((block' (readF l)).map byt).length = 40 := by rw [List.length_map, hm40]
          have Hmin := Lib.hid (infoR (n := ((block' (readF l)).map byt).length) hml)
          have Hvl := Lib.hid hml
          have HVO := Lib.hid (byt_one (block' (readF l)))
          by_cases he : block' (readF l) = l
          · have hneq := fun (W : World) => neq_R (block' (readF l)) l hm40 HL.out hmlt hlt W
            rw [decide_eq_false (by simpa using he), HVS.out] at hneq
            have hoo : openOk l := (openOk_ref hlt).2 ⟨HSUM.out, hfm, hc, he⟩
            have HE : Hid (openE l = 0 ∧ openF l = readF l) := Lib.hid ⟨by unfold openE; rw [if_pos HSUM.out, if_pos hoo], by unfold openF; rw [if_pos hoo]⟩
            have HN := Lib.hid hneq
            clear hneq he hml hm40 hmlt hfm hoo hc hs1 hs2 hs3 hs4 hs5 hs6 hs7 hs8 hs9
            have HFF := Lib.hid hF
            clear hF
            generalize (block' (readF l)).map byt = us at *
            go_wp2_with (refine wpList_box_load rfl 37 _ rfl g rfl _ (partR (readF l)).toList _ HFF.out.f Try.underlying37 rfl infoRF ?_)
            refine (hseal _).mono ?_
            rintro e w4 ⟨rfl, hb4⟩
            have HF5 := Lib.hid (HFF.out.call hb4)
            clear HFF hb4 hseal
            have hgw := HF5.out.f.lt
            have hneq := HN.out
            clear HN
            go_wp2_with (first | (refine wpList_box_store rfl 31 _ _ rfl w4.heap.size rfl us rfl _ _ (Box.new' _ _ _ _ rfl) (Eq.trans rfl Hvl.out.symm) Hmin.out HVO.out ?_; intro X hX; have HF6 := Lib.hid (HF5.out.call (new_then w4 _ hX)); have HX := Lib.hid hX.box; clear hX HF5) | (refine wpList_box_load_g rfl 31 _ rfl w4.heap.size rfl _ us _ HX.out Try.underlying31 rfl Hmin.out ?_) | (refine wpList_box_load_g rfl 31 _ rfl w.heap.size rfl _ vs _ HF6.out.s.b Try.underlying31 rfl Hin.out ?_) | (refine wpList_box_load rfl 37 _ rfl g rfl _ (partR (readF l)).toList _ HF6.out.f Try.underlying37 rfl infoRF ?_) | (refine wpList_box_store rfl 37 _ _ rfl (w.heap.size + 1) rfl (partR (readF l)).toList rfl _ _ HF6.out.s.r rfl infoRF (partR_one _) ?_; intro Y hY))
            exact bodyPost_ret (v := .tuple #[(readF l).ref, .int .i64 0]) (results_cell_slot Try.results17 _ _ _ _ rfl (box_load (vs := (partR (readF l)).toList) _ hY.box Try.underlying37 rfl infoRF)) rfl ⟨by rw [HE.out.1, HE.out.2], HF6.out.s.d.trans (hY.below _ (by omega))⟩
          · have hneq := fun (W : World) => neq_R (block' (readF l)) l hm40 HL.out hmlt hlt W
            rw [decide_eq_true (by simpa using he), HVS.out] at hneq
            have hno : ¬ openOk l := fun h => he ((openOk_ref hlt).1 h).2.2.2
            have HE : Hid (openE l = 2 ∧ openF l = zeroF) := Lib.hid ⟨by unfold openE; rw [if_pos HSUM.out, if_neg hno], by unfold openF; rw [if_neg hno]⟩
            have HN := Lib.hid hneq
            clear hneq he hml hm40 hmlt hfm hno hc hs1 hs2 hs3 hs4 hs5 hs6 hs7 hs8 hs9
            have HFF := Lib.hid hF
            clear hF
            generalize (block' (readF l)).map byt = us at *
            go_wp2_with (refine wpList_box_load rfl 37 _ rfl g rfl _ (partR (readF l)).toList _ HFF.out.f Try.underlying37 rfl infoRF ?_)
            refine (hseal _).mono ?_
            rintro e w4 ⟨rfl, hb4⟩
            have HF5 := Lib.hid (HFF.out.call hb4)
            clear HFF hb4 hseal
            have hgw := HF5.out.f.lt
            have hneq := HN.out
            clear HN
            go_wp2_with (first | (refine wpList_box_store rfl 31 _ _ rfl w4.heap.size rfl us rfl _ _ (Box.new' _ _ _ _ rfl) (Eq.trans rfl Hvl.out.symm) Hmin.out HVO.out ?_; intro X hX; have HF6 := Lib.hid (HF5.out.call (new_then w4 _ hX)); have HX := Lib.hid hX.box; clear hX HF5) | (refine wpList_box_load_g rfl 31 _ rfl w4.heap.size rfl _ us _ HX.out Try.underlying31 rfl Hmin.out ?_) | (refine wpList_box_load_g rfl 31 _ rfl w.heap.size rfl _ vs _ HF6.out.s.b Try.underlying31 rfl Hin.out ?_) | (refine wpList_box_load rfl 37 _ rfl g rfl _ (partR (readF l)).toList _ HF6.out.f Try.underlying37 rfl infoRF ?_) | (refine wpList_box_store rfl 37 _ _ rfl (w.heap.size + 1) rfl zR.toList rfl _ _ HF6.out.s.r rfl infoRF zR_one ?_; intro Y hY))
            exact bodyPost_ret (v := .tuple #[zeroF.ref, .int .i64 2]) (results_cell_slot Try.results17 _ _ _ _ rfl (box_load (vs := zR.toList) _ hY.box Try.underlying37 rfl infoRF)) rfl ⟨by rw [HE.out.1, HE.out.2], HF6.out.s.d.trans (hY.below _ (by omega))⟩
        · have hnk : ¬ (KeyOk ((readF l).st : Int) (readF l).lo (readF l).li (readF l).nu ∧ 0 ≤ ((readF l).cl : Int) ∧ ((readF l).cl : Int) ≤ 1099511627776) := fun h => hc (by have := h.2.2; omega)
          have hseal := fun (W : World) => refSeal_no (readF l).st (readF l).lo (readF l).li (readF l).nu (readF l).cl (readF l).v0 (readF l).v1 (readF l).v2 (readF l).v3 W hnk
          have hno : ¬ openOk l := fun h => hc h.2.1
          have HE : Hid (openE l = 2 ∧ openF l = zeroF) := Lib.hid ⟨by unfold openE; rw [if_pos HSUM.out, if_neg hno], by unfold openF; rw [if_neg hno]⟩
          clear hno hnk hfm hc hs1 hs2 hs3 hs4 hs5 hs6 hs7 hs8 hs9
          have HFF := Lib.hid hF
          clear hF
          go_wp2_with (refine wpList_box_load rfl 37 _ rfl g rfl _ (partR (readF l)).toList _ HFF.out.f Try.underlying37 rfl infoRF ?_)
          refine (hseal _).mono ?_
          rintro e w4 ⟨rfl, hb4⟩
          have HF5 := Lib.hid (HFF.out.call hb4)
          clear HFF hb4 hseal
          have hgw := HF5.out.f.lt
          have HZ := Lib.hid (show w.heap.size + 1 < w4.heap.size by omega)
          go_wp2_with (first | (refine wpList_box_store rfl 31 _ _ rfl w4.heap.size rfl z40 rfl _ _ (Box.new' _ _ _ _ rfl) rfl z40_infoR z40_one ?_; intro X hX; have HF6 := Lib.hid (HF5.out.call (new_then w4 _ hX)); clear hX HF5) | (refine wpList_box_store rfl 37 _ _ rfl (w.heap.size + 1) rfl zR.toList rfl _ _ HF6.out.s.r rfl infoRF zR_one ?_; intro Y hY))
          exact bodyPost_ret (v := .tuple #[zeroF.ref, .int .i64 2]) (results_cell_slot Try.results17 _ _ _ _ rfl (box_load (vs := zR.toList) _ hY.box Try.underlying37 rfl infoRF)) rfl ⟨by rw [HE.out.1, HE.out.2], HF6.out.s.d.trans (hY.below _ (by omega))⟩

theorem refOpen_any (l : List Nat) (hl : l.length = 40) (hlt : ∀ x ∈ l, x < 256) (w : World) :
    Calls Try.prog 17 #[.agg (l.map byt).toArray] w fun e w' => e = .returned (.tuple #[(openF l).ref, .int .i64 (openE l)]) ∧ Below w.heap.size w w' := by
  by_cases hs : sumOk l
  · exact refOpen_form l hl hlt hs w
  · have h1 : openE l = 20 := by unfold openE; rw [if_neg hs]
    have h2 : openF l = zeroF := by unfold openF; rw [if_neg fun h => hs h.1]
    rw [h1, h2]
    exact refOpen_sum l hl hlt hs w
end Go.Proofs.Ytjahaljdfpengaa
