/- Blocks: Seal of a frame without an error. -/
import Derived.Test.YtjahaljdfpengaaPut
import Derived.Test.YtjahaljdfpengaaTime
namespace Go.Proofs.Ytjahaljdfpengaa
open Go.RowKit

/-- The bytes of a block, less its digest. -/
def body (f : Fr) : List Nat :=
  [] ++ le 2 f.st ++ le 1 f.lo ++ le 1 f.li ++ le 4 f.nu ++ le 6 f.cl ++ le 2 0 ++ le 4 (vb f.v0) ++ le 4 (vb f.v1) ++ le 4 (vb f.v2) ++ le 4 (vb f.v3)
/-- The bytes of a block. -/
def block (f : Fr) : List Nat := body f ++ le 8 (dg 11 (body f))
structure FrOk (f : Fr) : Prop where
  st : f.st ≤ 65535
  lo : f.lo ≤ 255
  li : f.li ≤ 255
  nu : f.nu ≤ 4294967295
  cl : f.cl ≤ 1099511627776
  v0 : f.v0 < 4294967296
  v1 : f.v1 < 4294967296
  v2 : f.v2 < 4294967296
  v3 : f.v3 < 4294967296
theorem vb_lt {b : Nat} (h : b < 4294967296) : vb b < 4294967296 := by unfold vb; split <;> omega
theorem body_len (f : Fr) : (body f).length = 32 := by simp [body, le_len]
theorem block_len (f : Fr) : (block f).length = 40 := by simp [block, body_len, le_len]
theorem body_lt (f : Fr) : ∀ x ∈ body f, x < 256 := by
  intro x hx
  simp only [body, List.mem_append] at hx
  rcases hx with (((((((((hx | hx) | hx) | hx) | hx) | hx) | hx) | hx) | hx) | hx) | hx
  · cases hx
  all_goals exact le_lt _ _ x hx
theorem BytesAt.of_own {w : World} {base : Nat} {e : TypeId} {a : Option Addr} {n c : Nat} {l : List Nat} (h : w.ownsRow base e 1 (.slice a n c) n (l.map byt)) (hl : ∀ x ∈ l, x < 256) : BytesAt w a l := by
  refine ⟨hl, fun h0 => ?_⟩
  have hlen : l.length = n := by simpa using h.1
  obtain ⟨g, cap, hv, _, hlt⟩ := h.form (by omega)
  injection hv with ha
  subst ha
  refine ⟨_, rfl, hlt, fun i hi => h.cells (g := g) rfl i _ ?_⟩
  simp [List.getD, hi]

theorem digest_n (s : Nat) (hs : s < 18446744073709551616) (a : Option Addr) (l : List Nat) (cap n : Nat) (hn : l.length = n) (w : World) (hb : BytesAt w a l) (hl : l.length ≤ 1152921504606846976) :
    Calls Try.prog 72 #[.int .u64 (s : Int), .slice a n cap] w fun e w' => e = .returned (.int .u64 (dg s l : Int)) ∧ w = w' := by
  subst hn
  exact digest_any s hs a l cap w hb hl

theorem Below.setCells' {B : Nat} {a : World} {b : Nat} : ∀ (vs : List Value) (o : Nat) {w : World}, Below B a w → B ≤ b → Below B a (w.setCells b o vs)
  | [], _, _, h, _ => h
  | v :: r, o, _, h, hB => Below.setCells' r (o + 1) (h.setCell (p := ⟨b, o, none⟩) hB v) hB
/-- A block that is known whole. -/
def Box (w : World) (g : Nat) (t : TypeId) (cs : Array Value) : Prop := w.heap[g]? = some (.cells cs t (0, 0))
theorem Box.below {w w' : World} {g B : Nat} {t : TypeId} {cs : Array Value} (h : Box w g t cs) (hb : Below B w w') (hg : g < B) : Box w' g t cs := (hb.block g hg).trans h
theorem Box.new (w : World) (t : TypeId) (cs : Array Value) : Box (w.alloc (.cells cs t)) w.heap.size t cs := heap_alloc_new w _
theorem Box.lt {w : World} {g : Nat} {t : TypeId} {cs : Array Value} (h : Box w g t cs) : g < w.heap.size := lt_of_block h
theorem Box.at_ {w : World} {g : Nat} {t : TypeId} {cs : Array Value} (h : Box w g t cs) {i : Nat} {v : Value} (hv : cs[i]? = some v) : w.cell? ⟨g, i, none⟩ = some v := (cell_of_row w g i cs t _ h).trans hv
theorem Box.free {w : World} {g : Nat} {t : TypeId} {cs : Array Value} (h : Box w g t cs) (i : Nat) : w.frozen? ⟨g, i, none⟩ = false := frozen_of_row w g i cs t h

/-- A new row of 40 bytes. -/
def mk40 (w : World) : World := w.alloc (.cells (Array.replicate 40 (.int .u8 0)) 5)
theorem mk40_run (w : World) : (Instr.makeSlice 73 (.int .i64 0) (.int .i64 40)).run Try.prog w = .ok (.slice (some ⟨w.heap.size, 0, none⟩) 0 40) (mk40 w) := by kernel_rfl
theorem mk40_below (w : World) : Below w.heap.size w (mk40 w) := (Below.refl _ _).alloc (Nat.le_refl _) _
theorem mk40_own (w : World) : (mk40 w).ownsRow w.heap.size 5 1 (.slice (some ⟨w.heap.size, 0, none⟩) 0 40) 0 (([] : List Nat).map byt) :=
  World.ownsRow_made w _ 40 (Nat.le_refl _) (by decide) (by simp)
theorem mk40_size (w : World) : (mk40 w).heap.size = w.heap.size + 1 := by simp [mk40]

theorem results_cell_slot {P : Program} {fn : Func} {p q : Tmp} {ty : TypeId} (h : fn.results = #[.cell p ty, .tmp q]) (tmps : Array Value) (w : World) (a : Addr) (v : Value)
    (hp : tmps.getD p undef = .pointer (some a)) (hl : (loadVar ty a).run P w = .ok v w) : (results fn tmps).run P w = .ok (.tuple #[v, tmps.getD q undef]) w := by
  have hp' : tmps[p]?.getD undef = .pointer (some a) := by simpa using hp
  simp [results, h, hp', asAddr, hl]

set_option maxHeartbeats 4000000 in
set_option maxRecDepth 100000 in
theorem seal_yes (f : Fr) (w : World) (h : FrOk f) :
    Calls Try.prog 13 #[f.val] w fun e w' => e = .returned (.tuple #[.agg ((block f).map byt).toArray, .int .i64 0]) ∧ Below w.heap.size w w' := by
  obtain ⟨st, lo, li, nu, cl, v0, v1, v2, v3⟩ := f
  obtain ⟨h1, h2, h3, h4, h5, h6, h7, h8, h9⟩ := h
  simp only at h1 h2 h3 h4 h5 h6 h7 h8 h9
  have hmk := fun W => mk40_run W
  go_enter Try.func13, Try.ntmps13
  go_wp2_with fail
  refine (fkey_any st lo li nu cl v0 v1 v2 v3 _).mono ?_
  rintro e w1 ⟨rfl, hb1⟩
  go_wp2_with fail
  refine (valid_yes st lo li nu _ ⟨⟨by omega, by omega⟩, ⟨by omega, by omega⟩, ⟨by omega, by omega⟩, by omega, by omega⟩).mono ?_
  rintro e w2 ⟨rfl, hb2⟩
  have hb := hb1.trans (hb2.mono hb1.size)
  clear hb1 hb2
  have hBox : Box w2 w.heap.size 25 #[.int .i64 st, .int .i64 lo, .int .i64 li, .int .i64 nu, .int .i64 cl, .float .f32 v0, .float .f32 v1, .float .f32 v2, .float .f32 v3] := by
    refine Box.below ?_ hb (by simp; omega)
    exact (Box.new w _ _).below ((Below.refl _ _).alloc (Nat.le_refl _) _) (by simp)
  have hz2 : w.heap.size + 2 ≤ w2.heap.size := by have := hb.size; simpa using this
  have q := hBox.at_ (i := 4) rfl
  go_wp2_with fail
  refine (upTo_yes _ _ _ (by omega) (by omega)).mono ?_
  rintro e w' ⟨rfl, rfl⟩
  clear q
  have hR : Box w2 (w.heap.size + 1) 27 (Array.replicate 40 (.int .u8 0)) := by
    refine Box.below ?_ hb (by simp)
    exact heap_alloc2_new w _ _
  have hBm := hBox.below (mk40_below w2) (by omega)
  have hRm := hR.below (mk40_below w2) (by omega)
  have q := hBm.at_ (i := 0) rfl
  have ho0 := mk40_own w2
  have hs0 : w2.heap.size ≤ (mk40 w2).heap.size := (mk40_below w2).size
  have hbb0 := mk40_below w2
  go_wp2_with fail
  refine (put_any w2.heap.size _ 0 ([]) 2 st _ ho0 (by decide) (by omega) (by decide) hs0).mono ?_
  rintro e W1 ⟨x1, rfl, ho1, hc1⟩
  have hB1 := hBm.below hc1 (by omega)
  have hs1 : w2.heap.size ≤ W1.heap.size := Nat.le_trans hs0 hc1.size
  have hbb1 : Below w2.heap.size w2 W1 := hbb0.trans hc1
  clear q ho0 hs0 hbb0 hc1 hBm
  have q := hB1.at_ (i := 1) rfl
  go_wp2_with fail
  refine (put_any w2.heap.size _ 2 ([] ++ le 2 st) 1 lo _ ho1 (by decide) (by omega) (by decide) hs1).mono ?_
  rintro e W2 ⟨x2, rfl, ho2, hc2⟩
  have hB2 := hB1.below hc2 (by omega)
  have hs2 : w2.heap.size ≤ W2.heap.size := Nat.le_trans hs1 hc2.size
  have hbb2 : Below w2.heap.size w2 W2 := hbb1.trans hc2
  clear q ho1 hs1 hbb1 hc2 hB1
  have q := hB2.at_ (i := 2) rfl
  go_wp2_with fail
  refine (put_any w2.heap.size _ 3 ([] ++ le 2 st ++ le 1 lo) 1 li _ ho2 (by decide) (by omega) (by decide) hs2).mono ?_
  rintro e W3 ⟨x3, rfl, ho3, hc3⟩
  have hB3 := hB2.below hc3 (by omega)
  have hs3 : w2.heap.size ≤ W3.heap.size := Nat.le_trans hs2 hc3.size
  have hbb3 : Below w2.heap.size w2 W3 := hbb2.trans hc3
  clear q ho2 hs2 hbb2 hc3 hB2
  have q := hB3.at_ (i := 3) rfl
  go_wp2_with fail
  refine (put_any w2.heap.size _ 4 ([] ++ le 2 st ++ le 1 lo ++ le 1 li) 4 nu _ ho3 (by decide) (by omega) (by decide) hs3).mono ?_
  rintro e W4 ⟨x4, rfl, ho4, hc4⟩
  have hB4 := hB3.below hc4 (by omega)
  have hs4 : w2.heap.size ≤ W4.heap.size := Nat.le_trans hs3 hc4.size
  have hbb4 : Below w2.heap.size w2 W4 := hbb3.trans hc4
  clear q ho3 hs3 hbb3 hc4 hB3
  have q := hB4.at_ (i := 4) rfl
  go_wp2_with fail
  refine (put_any w2.heap.size _ 8 ([] ++ le 2 st ++ le 1 lo ++ le 1 li ++ le 4 nu) 6 cl _ ho4 (by decide) (by omega) (by decide) hs4).mono ?_
  rintro e W5 ⟨x5, rfl, ho5, hc5⟩
  have hB5 := hB4.below hc5 (by omega)
  have hs5 : w2.heap.size ≤ W5.heap.size := Nat.le_trans hs4 hc5.size
  have hbb5 : Below w2.heap.size w2 W5 := hbb4.trans hc5
  clear q ho4 hs4 hbb4 hc5 hB4
  have q : True := trivial
  go_wp2_with fail
  refine (put_any w2.heap.size _ 14 ([] ++ le 2 st ++ le 1 lo ++ le 1 li ++ le 4 nu ++ le 6 cl) 2 0 _ ho5 (by decide) (by omega) (by decide) hs5).mono ?_
  rintro e W6 ⟨x6, rfl, ho6, hc6⟩
  have hB6 := hB5.below hc6 (by omega)
  have hs6 : w2.heap.size ≤ W6.heap.size := Nat.le_trans hs5 hc6.size
  have hbb6 : Below w2.heap.size w2 W6 := hbb5.trans hc6
  clear ho5 hs5 hbb5 hc6 hB5
  have q5 := hB6.at_ (i := 5) rfl
  have q6 := hB6.at_ (i := 6) rfl
  have q7 := hB6.at_ (i := 7) rfl
  have q8 := hB6.at_ (i := 8) rfl
  have i0 : ∀ w, (Instr.index 23 (.agg #[.float .f32 v0, .float .f32 v1, .float .f32 v2, .float .f32 v3]) (.int .i64 0)).run Try.prog w = .ok (.float .f32 v0) w := fun _ => by kernel_rfl
  have i1 : ∀ w, (Instr.index 23 (.agg #[.float .f32 v0, .float .f32 v1, .float .f32 v2, .float .f32 v3]) (.int .i64 1)).run Try.prog w = .ok (.float .f32 v1) w := fun _ => by kernel_rfl
  have i2 : ∀ w, (Instr.index 23 (.agg #[.float .f32 v0, .float .f32 v1, .float .f32 v2, .float .f32 v3]) (.int .i64 2)).run Try.prog w = .ok (.float .f32 v2) w := fun _ => by kernel_rfl
  have i3 : ∀ w, (Instr.index 23 (.agg #[.float .f32 v0, .float .f32 v1, .float .f32 v2, .float .f32 v3]) (.int .i64 3)).run Try.prog w = .ok (.float .f32 v3) w := fun _ => by kernel_rfl
  go_wp2_with fail
  refine wp_loop_rounds 5 ?_
  rw [rounds_succ]
  go_wp2_with fail
  refine (bits_any v0 _).mono ?_
  rintro e w' ⟨rfl, rfl⟩
  have hv0 := vb_lt (b := v0) (by omega)
  go_wp2_with fail
  refine (put_any w2.heap.size _ 16 ([] ++ le 2 st ++ le 1 lo ++ le 1 li ++ le 4 nu ++ le 6 cl ++ le 2 0) 4 (vb v0) _ ho6 (by decide) (by omega) (by decide) hs6).mono ?_
  rintro e W7 ⟨x7, rfl, ho7, hc7⟩
  have hB7 := hB6.below hc7 (by omega)
  have hs7 : w2.heap.size ≤ W7.heap.size := Nat.le_trans hs6 hc7.size
  have hbb7 : Below w2.heap.size w2 W7 := hbb6.trans hc7
  clear ho6 hs6 hbb6 hc7 hB6 hv0
  clear q5 q6 q7 q8
  go_wp2_with fail
  rw [rounds_succ]
  go_wp2_with fail
  refine (bits_any v1 _).mono ?_
  rintro e w' ⟨rfl, rfl⟩
  have hv1 := vb_lt (b := v1) (by omega)
  go_wp2_with fail
  refine (put_any w2.heap.size _ 20 ([] ++ le 2 st ++ le 1 lo ++ le 1 li ++ le 4 nu ++ le 6 cl ++ le 2 0 ++ le 4 (vb v0)) 4 (vb v1) _ ho7 (by decide) (by omega) (by decide) hs7).mono ?_
  rintro e W8 ⟨x8, rfl, ho8, hc8⟩
  have hB8 := hB7.below hc8 (by omega)
  have hs8 : w2.heap.size ≤ W8.heap.size := Nat.le_trans hs7 hc8.size
  have hbb8 : Below w2.heap.size w2 W8 := hbb7.trans hc8
  clear ho7 hs7 hbb7 hc8 hB7 hv1
  go_wp2_with fail
  rw [rounds_succ]
  go_wp2_with fail
  refine (bits_any v2 _).mono ?_
  rintro e w' ⟨rfl, rfl⟩
  have hv2 := vb_lt (b := v2) (by omega)
  go_wp2_with fail
  refine (put_any w2.heap.size _ 24 ([] ++ le 2 st ++ le 1 lo ++ le 1 li ++ le 4 nu ++ le 6 cl ++ le 2 0 ++ le 4 (vb v0) ++ le 4 (vb v1)) 4 (vb v2) _ ho8 (by decide) (by omega) (by decide) hs8).mono ?_
  rintro e W9 ⟨x9, rfl, ho9, hc9⟩
  have hB9 := hB8.below hc9 (by omega)
  have hs9 : w2.heap.size ≤ W9.heap.size := Nat.le_trans hs8 hc9.size
  have hbb9 : Below w2.heap.size w2 W9 := hbb8.trans hc9
  clear ho8 hs8 hbb8 hc9 hB8 hv2
  go_wp2_with fail
  rw [rounds_succ]
  go_wp2_with fail
  refine (bits_any v3 _).mono ?_
  rintro e w' ⟨rfl, rfl⟩
  have hv3 := vb_lt (b := v3) (by omega)
  go_wp2_with fail
  refine (put_any w2.heap.size _ 28 ([] ++ le 2 st ++ le 1 lo ++ le 1 li ++ le 4 nu ++ le 6 cl ++ le 2 0 ++ le 4 (vb v0) ++ le 4 (vb v1) ++ le 4 (vb v2)) 4 (vb v3) _ ho9 (by decide) (by omega) (by decide) hs9).mono ?_
  rintro e W10 ⟨x10, rfl, ho10, hc10⟩
  have hB10 := hB9.below hc10 (by omega)
  have hs10 : w2.heap.size ≤ W10.heap.size := Nat.le_trans hs9 hc10.size
  have hbb10 : Below w2.heap.size w2 W10 := hbb9.trans hc10
  clear ho9 hs9 hbb9 hc10 hB9 hv3
  go_wp2_with fail
  rw [rounds_succ]
  go_wp2_with fail
  obtain ⟨g, cap, rfl, hg, hglt⟩ := ho10.form (by decide)
  have hL := body_len ⟨st, lo, li, nu, cl, v0, v1, v2, v3⟩
  have hY := body_lt ⟨st, lo, li, nu, cl, v0, v1, v2, v3⟩
  have hdef : body ⟨st, lo, li, nu, cl, v0, v1, v2, v3⟩ = [] ++ le 2 st ++ le 1 lo ++ le 1 li ++ le 4 nu ++ le 6 cl ++ le 2 0 ++ le 4 (vb v0) ++ le 4 (vb v1) ++ le 4 (vb v2) ++ le 4 (vb v3) := rfl
  rw [← hdef] at ho10
  refine (digest_n 11 (by decide) _ _ _ 32 hL _ (BytesAt.of_own ho10 hY) (by rw [hL]; decide)).mono ?_
  rintro e w' ⟨rfl, rfl⟩
  have hdl := dg_lt 11 (by decide) (body ⟨st, lo, li, nu, cl, v0, v1, v2, v3⟩)
  have Hb : Hid (block ⟨st, lo, li, nu, cl, v0, v1, v2, v3⟩ = body ⟨st, lo, li, nu, cl, v0, v1, v2, v3⟩ ++ le 8 (dg 11 (body ⟨st, lo, li, nu, cl, v0, v1, v2, v3⟩))) := Lib.hid rfl
  have HL := Lib.hid hL
  clear hdef hL hY
  generalize body ⟨st, lo, li, nu, cl, v0, v1, v2, v3⟩ = bd at *
  generalize dg 11 bd = dd at *
  go_wp2_with fail
  refine (put_any w2.heap.size _ 32 bd 8 dd _ ho10 (by decide) hdl (by decide) hs10).mono ?_
  rintro e W11 ⟨x11, rfl, ho11, hc11⟩
  have hbb11 : Below w2.heap.size w2 W11 := hbb10.trans hc11
  clear ho10 hs10 hbb10 hc11 hB10 hdl hg hglt
  obtain ⟨g, cap, rfl, hg, hglt⟩ := ho11.form (by decide)
  have hRz := hR.below hbb11 (by omega)
  rw [← Hb.out] at ho11
  have harr : ∀ w, (Instr.arrayAt 27 (.slice (some ⟨g, 0, none⟩) (32 + 8) cap)).run Try.prog w = .ok (.pointer (some ⟨g, 0, none⟩)) w := fun _ => by kernel_rfl
  have hBl : ((block ⟨st, lo, li, nu, cl, v0, v1, v2, v3⟩).map byt).length = 40 := by rw [List.length_map, block_len]
  generalize hvs : (block ⟨st, lo, li, nu, cl, v0, v1, v2, v3⟩).map byt = vs at *
  have h1c : ∀ v ∈ vs, v.oneCell' = true := by
    rw [← hvs]
    intro v hv
    obtain ⟨n, _, rfl⟩ := List.mem_map.1 hv
    rfl
  have hin : (Try.prog.info? 27).map (·.size) = some vs.length := by rw [hBl]; kernel_rfl
  have hra : W11.rangeAt g 0 vs := fun j v hv => by
    have := ho11.cells (g := g) rfl j v hv
    rwa [Addr.add_mid] at this
  have hth : W11.there (w.heap.size + 1) 0 vs.length := fun j hj => by
    rw [hBl] at hj
    rw [hRz.at_ (i := 0 + j) (v := .int .u8 0) (by rw [Array.getElem?_replicate, if_pos (by omega)]), hRz.free]
    exact ⟨rfl, rfl⟩
  have hall : Array.all vs.toArray (·.oneCell') = true := all_oneCell_toArray h1c
  have hsz : vs.toArray.size = vs.length := by simp
  have hend : Below w.heap.size w (W11.setCells (w.heap.size + 1) 0 vs) := Below.setCells' vs 0 ((((Below.refl _ _).alloc (Nat.le_refl _) _).alloc (by simp) _ |>.trans (hb.mono (by simp; omega))).trans (hbb11.mono (by omega))) (by omega)
  have hload := run_loadVar_mid (P := Try.prog) (W11.setCells (w.heap.size + 1) 0 vs) (w.heap.size + 1) 0 27 vs _ (World.rangeAt_setCells_same _ _ _ _ hth) Try.underlying27 rfl hin
  have HV := Lib.hid hvs
  have HBl := Lib.hid hBl
  have HIn := Lib.hid hin
  have HSz := Lib.hid hsz
  clear hvs hBl hin hsz
  have HLo := Lib.hid hload
  clear hload
  go_wp2_with (first | (refine wpList_load_mid rfl 27 _ rfl g 0 rfl vs _ hra Try.underlying27 rfl HIn.out ?_) | (refine wpList_store_mid rfl 27 _ _ rfl (w.heap.size + 1) 0 vs.toArray rfl rfl (by rw [HSz.out]; exact hth) (by rw [HSz.out]; exact HIn.out) hall ?_))
  exact bodyPost_ret (v := .tuple #[.agg vs.toArray, .int .i64 0]) (results_cell_slot Try.results13 _ _ _ _ rfl HLo.out) rfl ⟨by rw [HV.out], hend⟩
end Go.Proofs.Ytjahaljdfpengaa
