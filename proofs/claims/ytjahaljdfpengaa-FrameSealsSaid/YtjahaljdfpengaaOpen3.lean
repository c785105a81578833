/- Blocks: the program's key and read of a block. -/
import Derived.Test.YtjahaljdfpengaaOpen2
import Derived.StillTailTactics
import Derived.Deep.RegionHeld3
namespace Go.Proofs.Ytjahaljdfpengaa
open Go.RowKit

theorem getD_append_lt (l : List Nat) (i : Nat) (h : i < l.length) : l.getD i 0 = l[i] := by simp [List.getD, h]
/-- Bytes of a block that is known whole. -/
theorem bytes_box {w : World} {g : Nat} {t : TypeId} {l : List Nat} (h : Box w g t (l.map byt).toArray) (hlt : ∀ x ∈ l, x < 256) (i m : Nat) (him : i + m ≤ l.length) : BytesAt w (some ⟨g, i, none⟩) (cut l i m) := by
  refine ⟨cut_lt hlt i m, fun _ => ⟨_, rfl, h.lt, fun j hj => ?_⟩⟩
  rw [cut_len him] at hj
  rw [Addr.add_mid, h.at_ (byte_at (by omega))]
  have h1 : i + j < l.length := by omega
  simp [cut, List.getD, h1, hj]
theorem nat_one {l : List Nat} {i : Nat} (h : i < l.length) : nat l i 1 = l.getD i 0 := by
  unfold nat cut
  rw [List.drop_eq_getElem_cons h]
  show l[i] + 256 * 0 = _
  simp [List.getD, h]
theorem get_s (a : Option Addr) (l : List Nat) (cap n : Nat) (hn : l.length = n) (h8 : n ≤ 8) (w : World) (hb : BytesAt w a l) :
    Calls Try.prog 77 #[.slice a n cap] w fun e w' => e = .returned (.int .u64 (num l : Int)) ∧ w' = w :=
  (get_any a l cap n hn h8 w hb).mono fun _ _ ⟨h1, h2⟩ => ⟨h1, h2.symm⟩

theorem region_tail {P : Program} {id : Nat} {Q : Exit → Act → World → Prop} {a : Act} {w : World} {l : List Oper} (n : Nat) (hm : P.follows .mixedOrders = true) (hB : Region.lexTailB .any l.toArray n = true)
    (h : ∀ w2, w2 = w.drew → wpStill P l.toArray w2 (fun a' => wpList P l.toArray Q (l.drop n) a' w2) (l.take n) a) : (Code.region id l.toArray true).wp P Q a w :=
  wp_region_still_tail n hm hB (h _ rfl)
theorem still_box_load {P : Program} {o : Oper} {a : Act} {w : World} {K : Act → Prop} (ty : TypeId) (x : Operand) (ho : o.op = .load ty x) (g : Nat) (hx : a.eval x = .pointer (some ⟨g, 0, none⟩)) (t : TypeId) (vs : List Value) (d : TypeDesc)
    (hB : Box w g t vs.toArray) (hu : P.underlying ty = some d) (hd : d.isRow = true) (hi : (P.info? ty).map (·.size) = some vs.length) (h : K (a.put o.dst (.agg vs.toArray))) : o.still P a w K := by
  unfold Oper.still execOp
  simp only [ho, hx, Instr.loadAt, Instr.sureAddr, Sem.run_bind, Sem.run_pure, Result.andThen_ok, run_loadVar_mid w g 0 ty vs d hB.range hu hd hi]
  exact ⟨rfl, h⟩

theorem fill4 {w : World} {g : Nat} {t : TypeId} {x0 x1 x2 x3 : Value} (h : Box w g t #[x0, x1, x2, x3]) (b0 b1 b2 b3 : Value) :
    Box ((((w.setCell ⟨g, 0, none⟩ b0).setCell ⟨g, 1, none⟩ b1).setCell ⟨g, 2, none⟩ b2).setCell ⟨g, 3, none⟩ b3) g t #[b0, b1, b2, b3] ∧ ∀ B, B ≤ g → Below B w ((((w.setCell ⟨g, 0, none⟩ b0).setCell ⟨g, 1, none⟩ b1).setCell ⟨g, 2, none⟩ b2).setCell ⟨g, 3, none⟩ b3) := by
  have := ((((h.set (i := 0) b0).set (i := 1) b1).set (i := 2) b2).set (i := 3) b3)
  exact ⟨by simpa using this, fun B hB => (((((Below.refl _ _).setCell (p := ⟨g, 0, none⟩) hB b0).setCell (p := ⟨g, 1, none⟩) hB b1).setCell (p := ⟨g, 2, none⟩) hB b2).setCell (p := ⟨g, 3, none⟩) hB b3)⟩
theorem S4 {w : World} {g : Nat} {t : TypeId} {a b c d : Value} (H : Box w g t #[a, b, c, d]) : w.cell? ⟨g, 0, none⟩ = some a ∧ w.cell? ⟨g, 1, none⟩ = some b ∧ w.cell? ⟨g, 2, none⟩ = some c ∧ w.cell? ⟨g, 3, none⟩ = some d :=
  ⟨H.at_ rfl, H.at_ rfl, H.at_ rfl, H.at_ rfl⟩
set_option maxHeartbeats 1000000 in
set_option maxRecDepth 100000 in
theorem key_any (l : List Nat) (hl : l.length = 40) (hlt : ∀ x ∈ l, x < 256) (w : World) :
    Calls Try.prog 115 #[.agg (l.map byt).toArray] w fun e w' =>
      e = .returned (keyV (readF l).st (readF l).lo (readF l).li (readF l).nu) ∧ Below w.heap.size w w' := by
  have hB := Box.new w 27 (l.map byt).toArray
  have e2 : nat l 2 1 = l.getD 2 0 := nat_one (by omega)
  have e3 : nat l 3 1 = l.getD 3 0 := nat_one (by omega)
  simp only [readF, e2, e3]
  have hl1 := cut_len (l := l) (i := 0) (m := 2) (by omega)
  have hl2 := cut_len (l := l) (i := 4) (m := 4) (by omega)
  have hx0 := nat_lt hlt 0 2
  have hx4 := nat_lt hlt 4 4
  have hx2 : l.getD 2 0 < 256 := by rw [← e2]; exact nat_lt hlt 2 1
  have hx3 : l.getD 3 0 < 256 := by rw [← e3]; exact nat_lt hlt 3 1
  have HL1 := Lib.hid hl1
  have HL2 := Lib.hid hl2
  have HL := Lib.hid hl
  clear e2 e3 hl1 hl2 hl
  go_enter Try.func115, Try.ntmps115
  go_wp2
  have hB2 : Box _ _ _ _ := hB.below ((Below.refl _ _).alloc (Nat.le_refl _) (.cells #[.int .i64 0, .int .i64 0, .int .i64 0, .int .i64 0] 127)) (by simp)
  have hR : Box ((w.alloc (.cells (l.map byt).toArray 27)).alloc (.cells #[.int .i64 0, .int .i64 0, .int .i64 0, .int .i64 0] 127)) (w.heap.size + 1) 127 #[.int .i64 0, .int .i64 0, .int .i64 0, .int .i64 0] := Box.new' _ _ _ _ (by simp)
  have hb : Below w.heap.size w ((w.alloc (.cells (l.map byt).toArray 27)).alloc (.cells #[.int .i64 0, .int .i64 0, .int .i64 0, .int .i64 0] 127)) := ((Below.refl _ _).alloc (Nat.le_refl _) _).alloc (by simp) _
  generalize ((w.alloc (.cells (l.map byt).toArray 27)).alloc (.cells #[.int .i64 0, .int .i64 0, .int .i64 0, .int .i64 0] 127)) = w1 at *
  refine region_tail 13 (by kernel_rfl) (by kernel_rfl) (fun w2 hw2 => ?_)
  have hBd := hB2.drew'
  have hRd := hR.drew'
  have hbd := below_drew hb
  rw [← hw2] at hBd hRd hbd
  clear hB2 hR hb hw2
  have b0 := bytes_box hBd hlt 0 2 (by rw [HL.out]; decide)
  have b4 := bytes_box hBd hlt 4 4 (by rw [HL.out]; decide)
  have c2 := hBd.at_ (byte_at (l := l) (i := 2) (by rw [HL.out]; decide))
  have c3 := hBd.at_ (byte_at (l := l) (i := 3) (by rw [HL.out]; decide))
  have g0 := hRd.at_ (i := 0) rfl
  have g1 := hRd.at_ (i := 1) rfl
  have g2 := hRd.at_ (i := 2) rfl
  have g3 := hRd.at_ (i := 3) rfl
  have f0 := hRd.free 0
  have f1 := hRd.free 1
  have f2 := hRd.free 2
  have f3 := hRd.free 3
  have e0 : IntKind.i64.wrap (nat l 0 2 : Int) = (nat l 0 2 : Int) := IntWalk.i64_in _ (by omega)
  have e4 : IntKind.i64.wrap (nat l 4 4 : Int) = (nat l 4 4 : Int) := IntWalk.i64_in _ (by omega)
  have e2 : IntKind.i64.wrap (l.getD 2 0 : Int) = (l.getD 2 0 : Int) := IntWalk.i64_in _ (by omega)
  have e3 : IntKind.i64.wrap (l.getD 3 0 : Int) = (l.getD 3 0 : Int) := IntWalk.i64_in _ (by omega)
  have h0 := get_s _ (cut l 0 2) 40 _ HL1.out (by decide) _ b0
  have h4 := get_s _ (cut l 4 4) 36 _ HL2.out (by decide) _ b4
  unfold nat at *
  generalize hA : num (cut l 0 2) = a at *
  generalize hD : num (cut l 4 4) = d at *
  generalize hQ : l.getD 2 0 = b at *
  generalize hC : l.getD 3 0 = c at *
  have HA : Hid (nat l 0 2 = a) := Lib.hid hA
  have HD : Hid (nat l 4 4 = d) := Lib.hid hD
  have HQ := Lib.hid hQ
  have HC := Lib.hid hC
  clear hA hD hQ hC
  clear b0 b4 hB
  simp only [List.take_succ_cons, List.take_zero, List.drop_succ_cons, List.drop_zero]
  still_step
  still_call h0
  iterate 7 still_step
  still_step
  still_call h4
  still_step
  still_step
  refine wpStill_nil ?_
  go_wp2
  obtain ⟨h9, hE9⟩ := fill4 hRd (.int .i64 a) (.int .i64 b) (.int .i64 c) (.int .i64 d)
  exact bodyPost_ret (v := keyV a b c d) (results_cell Try.results115 _ _ _ _ rfl (box_load (vs := [.int .i64 a, .int .i64 b, .int .i64 c, .int .i64 d]) _ h9 Try.underlying127 rfl (by kernel_rfl))) rfl ⟨by rw [HA.out, HD.out, HQ.out, HC.out], hbd.trans (hE9 _ (by omega))⟩

theorem run_store_float {P : Program} {w : World} {a : Addr} {m : Mode} (k : FloatKind) (n : Nat) : (store a (.float k n) m).run P w = stored P w a (.float k n) m := run_store P w a _ m rfl
attribute [local go_sem] run_store_float
theorem ffrom (b : Nat) (w : World) : (callFunc 124 #[.int .u32 (b : Int)]).run Try.prog w = .ok (.value (.float .f32 b)) w := by
  rw [run_callFunc_extern Try.func124 (by kernel_rfl) (by kernel_rfl) (by kernel_rfl) (e := Extern.MathFloatBits.float32frombits) (by kernel_rfl)]
  rfl
/-- The cells of a frame that is read, with k values. -/
def part (l : List Nat) (k : Nat) : Array Value :=
  #[.int .i64 (readF l).st, .int .i64 (readF l).lo, .int .i64 (readF l).li, .int .i64 (readF l).nu, .int .i64 (nat l 8 6), .float .f32 (if 0 < k then nat l 16 4 else 0), .float .f32 (if 1 < k then nat l 20 4 else 0), .float .f32 (if 2 < k then nat l 24 4 else 0), .float .f32 (if 3 < k then nat l 28 4 else 0)]
theorem part_set (l : List Nat) (k : Nat) (hk : k < 4) : (part l k).setIfInBounds (5 + k) (.float .f32 (nat l (16 + 4 * k) 4)) = part l (k + 1) := by
  rcases k with _ | _ | _ | _ | k
  · simp [part]
  · simp [part]
  · simp [part]
  · simp [part]
  · omega
theorem infoF : (Try.prog.info? 25).map (·.size) = some 9 := by kernel_rfl
theorem part_one (l : List Nat) (k : Nat) : ∀ v ∈ (part l k).toList, v.oneCell' = true := by
  intro v hv
  simp [part] at hv
  rcases hv with rfl | rfl | rfl | rfl | rfl | rfl | rfl | rfl | rfl <;> rfl
theorem slice4 (g k : Nat) (hk : k < 4) (w : World) : (Instr.sliceAt 27 (.pointer (some ⟨g, 0, none⟩)) (some (.int .i64 (16 + 4 * (k : Int)))) (some (.int .i64 (20 + 4 * (k : Int)))) none).run Try.prog w = .ok (.slice (some ⟨g, 16 + 4 * k, none⟩) 4 (40 - (16 + 4 * k))) w := by
  rcases k with _ | _ | _ | _ | k
  · kernel_rfl
  · kernel_rfl
  · kernel_rfl
  · kernel_rfl
  · omega
set_option maxHeartbeats 2000000 in
set_option maxRecDepth 100000 in
theorem read_any (l : List Nat) (hl : l.length = 40) (hlt : ∀ x ∈ l, x < 256) (w : World) :
    Calls Try.prog 78 #[.agg (l.map byt).toArray] w fun e w' => e = .returned (readF l).val ∧ Below w.heap.size w w' := by
  have hB := Box.new w 27 (l.map byt).toArray
  have HL := Lib.hid hl
  have hin := infoB (n := (l.map byt).length) (by rw [List.length_map, hl])
  have Hin := Lib.hid hin
  clear hl hin
  go_enter Try.func78, Try.ntmps78
  go_wp2_with (refine wpList_box_load rfl 27 _ rfl w.heap.size rfl _ _ _ (hB.below ((Below.refl _ _).alloc (Nat.le_refl _) _) (by simp)) Try.underlying27 rfl Hin.out ?_)
  refine (key_any l HL.out hlt _).mono ?_
  rintro e w1 ⟨rfl, hb1⟩
  go_wp2_with fail
  obtain ⟨hs1, hs2, hs3, hs4, hs5, _⟩ := readF_small hlt
  have hBk : Box w1 w.heap.size 27 (l.map byt).toArray := Box.below ((Box.new w _ _).below ((Below.refl _ _).alloc (Nat.le_refl _) _) (by simp)) hb1 (by simp; omega)
  have hRk : Box w1 (w.heap.size + 1) 25 #[.int .i64 0, .int .i64 0, .int .i64 0, .int .i64 0, .int .i64 0, .float .f32 0, .float .f32 0, .float .f32 0, .float .f32 0] := Box.below (Box.new' _ _ _ _ (by simp)) hb1 (by simp)
  have hbk : Below w.heap.size w w1 := (((Below.refl _ _).alloc (Nat.le_refl _) _).alloc (by simp) _).trans (hb1.mono (by simp; omega))
  have hz : w.heap.size + 2 ≤ w1.heap.size := by have := hb1.size; simpa using this
  have hKy := Box.new w1 127 #[.int .i64 (readF l).st, .int .i64 (readF l).lo, .int .i64 (readF l).li, .int .i64 (readF l).nu]
  have hA1 : Below w1.heap.size w1 (w1.alloc (.cells #[.int .i64 (readF l).st, .int .i64 (readF l).lo, .int .i64 (readF l).li, .int .i64 (readF l).nu] 127)) := (Below.refl _ _).alloc (Nat.le_refl _) _
  have hBk2 := hBk.below hA1 (by omega)
  have hRk2 := hRk.below hA1 (by omega)
  have hbk2 := hbk.trans (hA1.mono hbk.size)
  have hz2 : w1.heap.size + 1 = (w1.alloc (.cells #[.int .i64 (readF l).st, .int .i64 (readF l).lo, .int .i64 (readF l).li, .int .i64 (readF l).nu] 127)).heap.size := by simp
  clear hb1 hBk hRk hbk hA1 hB
  generalize (w1.alloc (.cells #[.int .i64 (readF l).st, .int .i64 (readF l).lo, .int .i64 (readF l).li, .int .i64 (readF l).nu] 127)) = w2 at *
  have hl8 := cut_len (l := l) (i := 8) (m := 6) (by rw [HL.out]; decide)
  have HL8 := Lib.hid hl8
  clear hl8
  have ec : IntKind.i64.wrap (num (cut l 8 6) : Int) = (num (cut l 8 6) : Int) := IntWalk.i64_in _ (by have : nat l 8 6 < 281474976710656 := hs5; unfold nat at this; omega)
  have HRF : Hid (readF l = readF l) := Lib.hid rfl
  have b8 := bytes_box hBk2 hlt 8 6 (by rw [HL.out]; decide)
  have b8d := bytes_box hBk2.drew' hlt 8 6 (by rw [HL.out]; decide)
  have b8a := bytes_box (Box.drew' (hBk2.below ((Below.refl _ _).alloc (Nat.le_refl _) (.cells #[.int .i64 0, .int .i64 0, .int .i64 0, .int .i64 0, .int .i64 0, .float .f32 0, .float .f32 0, .float .f32 0, .float .f32 0] 25)) hBk2.lt)) hlt 8 6 (by rw [HL.out]; decide)
  have h66 : 6 ≤ 8 := by decide
  have hZ2 := Lib.hid hz2
  clear hz2
  go_region_held3 (fun w' => w'.cell? ⟨w1.heap.size, 0, none⟩ = some (.int .i64 (readF l).st) ∧ w'.cell? ⟨w1.heap.size, 1, none⟩ = some (.int .i64 (readF l).lo) ∧ w'.cell? ⟨w1.heap.size, 2, none⟩ = some (.int .i64 (readF l).li) ∧ w'.cell? ⟨w1.heap.size, 3, none⟩ = some (.int .i64 (readF l).nu))
    (first | (with_reducible exact S4 hKy) | (with_reducible exact S4 hKy.drew') | (with_reducible exact S4 (Box.drew' (hKy.below ((Below.refl _ _).alloc (Nat.le_refl _) _) hKy.lt))) | fail)
    (first | (go_at_call 77; refine (get_any _ (cut l 8 6) _ _ HL8.out h66 _ b8d).mono ?_; rintro e wa ⟨rfl, rfl⟩) | (go_at_call 77; refine (get_any _ (cut l 8 6) _ _ HL8.out h66 _ b8a).mono ?_; rintro e wa ⟨rfl, rfl⟩) | fail)
  all_goals
    have hfin : Box (w2.alloc (.cells #[.int .i64 (readF l).st, .int .i64 (readF l).lo, .int .i64 (readF l).li, .int .i64 (readF l).nu, .int .i64 (num (cut l 8 6)), .float .f32 0, .float .f32 0, .float .f32 0, .float .f32 0] 25)).drew w2.heap.size 25 (part l 0) := (Box.new w2 _ _).drew'
    have hAl : Below w2.heap.size w2 (w2.alloc (.cells #[.int .i64 (readF l).st, .int .i64 (readF l).lo, .int .i64 (readF l).li, .int .i64 (readF l).nu, .int .i64 (num (cut l 8 6)), .float .f32 0, .float .f32 0, .float .f32 0, .float .f32 0] 25)).drew := below_drew ((Below.refl _ _).alloc (Nat.le_refl _) _)
    have hBk3 := hBk2.below hAl hBk2.lt
    have hRk3 := hRk2.below hAl hRk2.lt
    have hbk3 := hbk2.trans (hAl.mono hbk2.size)
    have hz3 : w.heap.size + 1 < w2.heap.size := hRk2.lt
    clear hAl hBk2 hRk2 hbk2 b8 b8d b8a hKy ec
    generalize (w2.alloc (.cells #[.int .i64 (readF l).st, .int .i64 (readF l).lo, .int .i64 (readF l).li, .int .i64 (readF l).nu, .int .i64 (num (cut l 8 6)), .float .f32 0, .float .f32 0, .float .f32 0, .float .f32 0] 25)).drew = w3 at *
    have HBk3 := Lib.hid hBk3
    have HRk3 := Lib.hid hRk3
    have Hfin := Lib.hid hfin
    clear hBk3 hRk3 hfin
    go_wp2_with fail
    go_loopw [20] (fun x wr => ∃ k : Nat, k ≤ 4 ∧ x = .int .i64 k ∧ Box wr w2.heap.size 25 (part l k) ∧ Box wr w.heap.size 27 (l.map byt).toArray ∧ Box wr (w.heap.size + 1) 25 #[.int .i64 0, .int .i64 0, .int .i64 0, .int .i64 0, .int .i64 0, .float .f32 0, .float .f32 0, .float .f32 0, .float .f32 0] ∧ Below w.heap.size w wr) (fun x _ => 4 - (intOf x).toNat)
    case atStart => exact ⟨0, Nat.zero_le _, rfl, Hfin.out, HBk3.out, HRk3.out, hbk3⟩
    case round =>
      obtain ⟨k, hk, rfl, hF, hBB, hRR, hbb⟩ := hrel
      by_cases hlt4 : k < 4
      · have hbt := bytes_box hBB hlt (16 + 4 * k) 4 (by rw [HL.out]; omega)
        have hcl := cut_len (l := l) (i := 16 + 4 * k) (m := 4) (by rw [HL.out]; omega)
        have HCL := Lib.hid hcl
        have hnl : num (cut l (16 + 4 * k) 4) < 4294967296 := nat_lt hlt (16 + 4 * k) 4
        have HPS : Hid ((part l k).setIfInBounds (5 + k) (.float .f32 (num (cut l (16 + 4 * k) 4))) = part l (k + 1)) := Lib.hid (part_set l k hlt4)
        have hps : (part l k).size = 9 := rfl
        have hcc : wr.cell? ⟨w2.heap.size, 5 + k, none⟩ = some ((part l k)[5 + k]'(by rw [hps]; omega)) := hF.at_ (Array.getElem?_eq_getElem _)
        generalize ((part l k)[5 + k]'(by rw [hps]; omega)) = vv at *
        have hff := hF.free (5 + k)
        have HF := Lib.hid hF
        have HBB := Lib.hid hBB
        have HRR := Lib.hid hRR
        have hcall := get_any _ (cut l (16 + 4 * k) 4) (40 - (16 + 4 * k)) _ HCL.out (by decide) _ hbt
        clear hF hBB hRR hcl hbt hps
        generalize num (cut l (16 + 4 * k) 4) = nn at *
        have hfr := fun (w : World) => ffrom nn w
        have hsl := fun (W : World) => slice4 w.heap.size k hlt4 W
        go_wp2_with fail
        refine hcall.mono ?_
        rintro e w' ⟨rfl, rfl⟩
        go_wp2_with fail
        go_roundw
        case rel =>
          refine ⟨k + 1, by omega, by go_num, ?_, HBB.out.at' (by omega), HRR.out.at' (by omega), hbb.setCell (p := ⟨w2.heap.size, 5 + k, none⟩) (by simp; omega) _⟩
          rw [← HPS.out]
          exact HF.out.set _
        case measure => simp [intOf]; omega
      · obtain rfl : k = 4 := by omega
        go_wp2_with (first | (refine wpList_box_load rfl 25 _ rfl w2.heap.size rfl _ (part l 4).toList _ hF Try.underlying25 rfl infoF ?_) | (refine wpList_box_store rfl 25 _ _ rfl (w.heap.size + 1) rfl (part l 4).toList rfl _ _ hRR rfl infoF (part_one l 4) ?_; intro X hX))
        exact bodyPost_ret (v := (readF l).val) (results_cell Try.results78 _ _ _ _ rfl (box_load (vs := (part l 4).toList) _ hX.box Try.underlying25 rfl infoF)) rfl ⟨rfl, hbb.trans (hX.below _ (by omega))⟩
end Go.Proofs.Ytjahaljdfpengaa
