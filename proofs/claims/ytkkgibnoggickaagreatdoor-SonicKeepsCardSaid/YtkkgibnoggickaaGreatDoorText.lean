/- strings.Builder: copyCheck and WriteString. -/
import Derived.Test.YtkkgibnoggickaaGreatDoorSub
import Derived.Shelf.Strings.Builder1
import Derived.Lib.Builder
import Derived.Deep.LoopGhost
namespace Go.Proofs.YtkkgibnoggickaaGreatDoor
open Go.RowKit Go.Sort Dg Fr

theorem infoBuilder : (Tryz.prog.info? 255).map (·.size) = some 2 := by kernel_rfl
theorem liesBuilder : liesAt Tryz.prog Tryz.prog.depth 255 (2 / Tryz.prog.cellsOf 255) 0 255 1 = true := by kernel_rfl
theorem infoByte : (Tryz.prog.info? 5).map (fun i => (i.zero, i.size, i.bytes)) = some (some (.int .u8 0), 1, 1) := by kernel_rfl
set_option maxRecDepth 100000 in
theorem copyCheck_used (b : Nat) (w : World) (h0 : w.cell? ⟨b, 0, none⟩ = some (.pointer (some ⟨b, 0, none⟩))) :
    Calls Tryz.prog 235 #[.pointer (some ⟨b, 0, none⟩)] w fun e w' => e = .returned (.tuple #[]) ∧ w = w' := by
  obtain ⟨j, hj, _⟩ := Option.map_eq_some_iff.1 infoBuilder
  go_enter Tryz.func235, Tryz.ntmps235
  go_wp2
  rw [Lib.run_neq_ptr_same w _ Tryz.underlying253 hj]
  go_wp2
  go_end0
  exact ⟨rfl, rfl⟩
set_option maxRecDepth 100000 in
theorem copyCheck_fresh (b : Nat) (w : World) (h0 : w.cell? ⟨b, 0, none⟩ = some (.pointer none)) (hsh : w.shape? b = some (255, 2)) (hfz : w.frozen? ⟨b, 0, none⟩ = false) :
    Calls Tryz.prog 235 #[.pointer (some ⟨b, 0, none⟩)] w fun e w' => e = .returned (.tuple #[]) ∧ w.setCell ⟨b, 0, none⟩ (.pointer (some ⟨b, 0, none⟩)) = w' := by
  obtain ⟨j, hj, hjs⟩ := Option.map_eq_some_iff.1 infoBuilder
  go_enter Tryz.func235, Tryz.ntmps235
  go_wp2
  rw [Lib.run_to_unsafe w ⟨b, 0, none⟩ Tryz.underlying253 Tryz.underlying302 hj (by rw [hjs]; decide) hsh (Nat.zero_lt_succ 1)]
  simp only [Result.andThen]
  rw [Oper.upon_value]
  go_wp2
  rw [run_callFunc_extern Tryz.func255 (by kernel_rfl) (by kernel_rfl) (by kernel_rfl) (e := Extern.AbiNoEscape.same) (by kernel_rfl)]
  rw [Lib.run_noEscape]
  simp only [Result.andThen]
  rw [Oper.upon_value]
  go_wp2
  rw [Lib.run_from_unsafe w ⟨b, 0, none⟩ Tryz.underlying302 Tryz.underlying253 hj hsh liesBuilder]
  simp only [Result.andThen]
  rw [Oper.upon_value]
  go_wp2
  go_end0
  exact ⟨rfl, rfl⟩

theorem copyCheck_any (B b : Nat) (bs : List Value) (w : World) (h : Lib.IsBuilder 255 5 B b bs w) :
    Calls Tryz.prog 235 #[.pointer (some ⟨b, 0, none⟩)] w fun e w' => e = .returned (.tuple #[]) ∧ (Lib.BuilderAt 255 5 B b (.pointer (some ⟨b, 0, none⟩)) bs w' ∧ Below B w w') := by
  rcases h with h | h
  · refine (copyCheck_fresh b w h.cell0 h.shape h.frozen0).mono ?_
    rintro e w' ⟨rfl, rfl⟩
    exact ⟨rfl, h.used _, (Below.refl B w).setCell (p := ⟨b, 0, none⟩) h.1 _⟩
  · refine (copyCheck_used b w h.cell0).mono ?_
    rintro e w' ⟨rfl, rfl⟩
    exact ⟨rfl, h, Below.refl B _⟩
set_option maxHeartbeats 2000000 in
set_option maxRecDepth 100000 in
theorem writeString_any (B b : Nat) (bs : List Value) (s : ByteArray) (w : World) (h : Lib.IsBuilder 255 5 B b bs w) (hlen : bs.length + s.size ≤ 140737488355328) (hBw : B ≤ w.heap.size) :
    Calls Tryz.prog 206 #[.pointer (some ⟨b, 0, none⟩), .string s] w fun e w' => e = .returned (.tuple #[.int .i64 s.size, .nilIface]) ∧ (Lib.BuilderAt 255 5 B b (.pointer (some ⟨b, 0, none⟩)) (bs ++ Lib.strCells s) w' ∧ Below B w w') := by
  obtain ⟨i0, hi, hz0, hz1, hz2⟩ := info_parts infoByte
  have HI := Lib.hid hi
  have HZ0 := Lib.hid hz0
  have HZ1 := Lib.hid hz1
  have HZ2 := Lib.hid hz2
  clear hi hz0 hz1 hz2
  go_enter Tryz.func206, Tryz.ntmps206
  go_wp2_with fail
  refine (copyCheck_any B b bs _ h).mono ?_
  rintro e w1 ⟨rfl, h1, hb1⟩
  obtain ⟨hB, v, hbk, hown, hne⟩ := h1
  have c0 : w1.cell? ⟨b, 0, none⟩ = some (.pointer (some ⟨b, 0, none⟩)) := by rw [Lib.cell_of_heap hbk]; rfl
  have c1 : w1.cell? ⟨b, 1, none⟩ = some v := by rw [Lib.cell_of_heap hbk]; rfl
  have HBK := Lib.hid hbk
  clear hbk h
  go_wp2_with (at_builtin; refine Lib.wpList_append_own_string _ rfl _ _ 122 9 rfl B 5 i0 Tryz.underlying122 Tryz.underlying9 HI.out HZ0.out HZ1.out HZ2.out _ _ _ rfl hown s rfl ?c3 ?c4 ?c5 ?_)
  case c3 => unfold maxLen; omega
  case c4 => omega
  case c5 => have := hb1.size; omega
  intro v' w2 hown' hgrow _
  have hlt : b < w1.heap.size := by
    rcases Nat.lt_or_ge b w1.heap.size with h' | h'
    · exact h'
    · have := HBK.out; simp [Array.getElem?_eq_none h'] at this
  have hb2 : w2.heap[b]? = some (.cells #[.pointer (some ⟨b, 0, none⟩), v] 255 (0, 0)) := by
    rw [hgrow.block b hlt (fun e => hne e.symm)]
    exact HBK.out
  have d0 : w2.cell? ⟨b, 0, none⟩ = some (.pointer (some ⟨b, 0, none⟩)) := by rw [Lib.cell_of_heap hb2]; rfl
  have d1 : w2.cell? ⟨b, 1, none⟩ = some v := by rw [Lib.cell_of_heap hb2]; rfl
  have f1 : w2.frozen? ⟨b, 1, none⟩ = false := Lib.frozen_of_heap hb2 1
  obtain ⟨ao, n', cap, rfl⟩ : ∃ ao n' cap, v' = .slice ao n' cap := by
    rcases hown'.2 with ⟨hv, _⟩ | ⟨g, cap, cur, hv, _⟩
    · exact ⟨_, _, _, hv⟩
    · exact ⟨_, _, _, hv⟩
  have HB2 := Lib.hid hb2
  clear hb2
  go_wp2
  go_ret2
  refine ⟨rfl, ?_, ?_⟩
  · exact Lib.BuilderAt.put (T := 255) (e := 5) hB HB2.out (bs' := bs ++ Lib.strCells s) (by simpa [Lib.strCells_length] using hown') (by decide)
  · exact (hb1.grown hgrow (by have := hb1.size; omega) (fun k hk => (hown.lt k hk).1)).setCell (p := ⟨b, 1, none⟩) hB _

/-- FormatUint of a number below 100. -/
theorem formatUint_in (n : Nat) (h : n < 100) (w : World) : Calls Tryz.prog 234 #[.int .u64 n, .int .i64 10] w fun e w' => e = .returned (.string ⟨(Lib.decDigits n).toArray⟩) ∧ w = w' := by
  have h' : (n : Int) < 100 := by omega
  go_enter Tryz.func234, Tryz.ntmps234
  go_wp2_with fail
  refine (Tryz.internal_strconv_small n h w).mono ?_
  rintro e w' ⟨rfl, rfl⟩
  go_wp2
  go_ret
  exact ⟨rfl, rfl⟩
theorem formatUint_small (n : Nat) (h : n < 100) (w : World) : Calls Tryz.prog 205 #[.int .u64 n, .int .i64 10] w fun e w' => e = .returned (.string ⟨(Lib.decDigits n).toArray⟩) ∧ Below w.heap.size w w' := by
  go_enter Tryz.func205, Tryz.ntmps205
  go_wp2_with fail
  refine (formatUint_in n h w).mono ?_
  rintro e w' ⟨rfl, rfl⟩
  go_wp2
  go_ret
  exact ⟨rfl, Below.refl _ _⟩

theorem info_str : (Tryz.prog.info? 9).map (fun i => (i.zero, i.size, i.bytes)) = some (some (.string ByteArray.empty), 1, 16) := by kernel_rfl
/-- A division by what a chunk takes. -/
theorem chunk_any (a : Option Addr) (ca n : Nat) (w : World) (h : DigsAt w a (nl n) ca n) (hn : n < 10000000000000000000) :
    Calls Tryz.prog 176 #[.slice a (nl n) ca, .int .u64 10000000000000000000] w fun e w' =>
      ∃ a' c', e = .returned (.tuple #[.slice a' 0 c', u64 n]) ∧ Below w.heap.size w w' := by
  have hn1 : nl n ≤ 1 := nl_le (by rw [Nat.pow_one]; unfold B; omega)
  refine (divideWord_any a ca n 10000000000000000000 w h (by omega) (by omega) (by unfold B; omega)).mono ?_
  rintro e w' ⟨a', c', rfl, _, hb⟩
  rw [Nat.div_eq_of_lt hn, Nat.mod_eq_of_lt hn, nl_zero]
  exact ⟨a', c', rfl, hb⟩
/-- What text gives. -/
def GivesS (w : World) (l : List UInt8) (e : Ending) (w' : World) : Prop := e = .returned (.string ⟨l.toArray⟩) ∧ Below w.heap.size w w'
theorem one_string (W : World) (s : ByteArray) : ∀ (j : Nat) (u : Value), ([Value.string s] : List Value)[j]? = some u → (W.alloc (.cells #[.string s] 9)).cell? ((⟨W.heap.size, 0, none⟩ : Addr).add j) = some u := by
  intro j u hj
  rcases j with _ | j
  · simp at hj; subst hj
    rw [show (⟨W.heap.size, 0, none⟩ : Addr).add 0 = ⟨W.heap.size, 0, none⟩ from rfl]
    exact (Box.new W 9 #[.string s]).at_ rfl
  · simp at hj
/-- The one string of a slice that was appended to. -/
theorem own_one {w : World} {base : Nat} {v u : Value} (h : w.ownsRow base 9 1 v 1 [u]) : ∃ g cap, v = .slice (some ⟨g, 0, none⟩) 1 cap ∧ g < w.heap.size ∧ w.cell? ⟨g, 0, none⟩ = some u := by
  obtain ⟨_, h2 | ⟨g, cap, cur, rfl, hb, hg, hmc, _, hs, ht⟩⟩ := h
  · exact absurd h2.2 (by decide)
  · refine ⟨g, cap, rfl, (Array.getElem?_eq_some_iff.1 hg).1, ?_⟩
    rw [cell_of_row w g 0 cur 9 (0, 0) hg]
    have h3 : (cur.toList.take (1 * 1))[0]? = some u := by rw [ht]; rfl
    rw [List.getElem?_take, if_pos (by decide)] at h3
    simpa using h3

set_option maxHeartbeats 4000000 in
set_option maxRecDepth 100000 in
theorem text_one (a : Option Addr) (ca n : Nat) (l : List UInt8) (w : World) (h : DigsAt w a (nl n) ca n) (h0 : n ≠ 0) (hn : n < 10000000000000000000) (hl : l.length ≤ 100)
    (hF : ∀ W, Calls Tryz.prog 205 #[.int .u64 n, .int .i64 10] W fun e w' => e = .returned (.string ⟨l.toArray⟩) ∧ Below W.heap.size W w') :
    Calls Tryz.prog 154 #[.slice a (nl n) ca] w (GivesS w l) := by
  have hn1 : nl n = 1 := by
    have h1 : nl n ≤ 1 := nl_le (by rw [Nat.pow_one]; unfold B; omega)
    have h2 := nl_pos h0
    omega
  obtain ⟨i0, hi, hz0, hz1, hz2⟩ := info_parts info_str
  have HD := Lib.hid (chunk_any a ca n w h hn)
  rw [hn1] at HD ⊢
  have HF := Lib.hid hF
  have HI := Lib.hid hi
  have HZ0 := Lib.hid hz0
  have HZ1 := Lib.hid hz1
  have HZ2 := Lib.hid hz2
  clear h h0 hn hn1 hF hi hz0 hz1 hz2
  go_enter Tryz.func154, Tryz.ntmps154
  go_wp2_with fail
  go_loopg [0, 3] 1 (fun k v0 v3 wr => (k = 1 ∧ v0 = .slice a 1 ca ∧ v3 = .slice none 0 0 ∧ w = wr) ∨ (k = 0 ∧ ∃ a' c', v0 = .slice a' 0 c' ∧ Hid (wr.ownsRow w.heap.size 9 1 v3 1 [.string ⟨l.toArray⟩]) ∧ Hid (Below w.heap.size w wr)))
  case atStart => exact .inl ⟨rfl, rfl, rfl, rfl⟩
  case round =>
    rcases hrel with ⟨rfl, rfl, rfl, rfl⟩ | ⟨rfl, a', c', rfl, HO, HB⟩
    · go_wp2_with fail
      refine HD.out.mono ?_
      rintro e w1 ⟨a1, c1, rfl, hb1⟩
      have HB1 := Lib.hid hb1
      clear hb1
      go_wp2_with fail
      refine (HF.out _).mono ?_
      rintro e w2 ⟨rfl, hb2⟩
      have HB2 := Lib.hid (HB1.out.trans (hb2.mono HB1.out.size))
      clear hb2
      have hnil : w2.ownsRow w.heap.size 9 1 (.slice none 0 0) 0 [] := ⟨rfl, .inl ⟨rfl, rfl⟩⟩
      have hbs : w.heap.size ≤ w2.heap.size := HB2.out.size
      have HST := Lib.hid (one_string w2 ⟨l.toArray⟩)
      go_wp2_with (at_builtin; refine wpList_append_own _ rfl _ _ 251 rfl w.heap.size 9 i0 (.string ByteArray.empty) 1 16 Tryz.underlying251 HI.out HZ0.out HZ1.out HZ2.out rfl (by decide) _ _ _ rfl (hnil.alloc _) ⟨w2.heap.size, 0, none⟩ 1 1 [.string ⟨l.toArray⟩] rfl rfl HST.out ?c2 ?c3 ?c4 ?c5 ?_)
      case c2 => intro u hu; simp at hu; subst hu; rfl
      case c3 => decide
      case c4 => decide
      case c5 => simp; omega
      intro v' w3 hown hgrow _
      have HO := Lib.hid hown
      have HB3 : Hid (Below w.heap.size w w3) := Lib.hid ((HB2.out.alloc (by omega) _).grown hgrow (by simp; omega) (fun k hk => by cases hk))
      clear hown hgrow hnil
      go_wp2_with fail
      go_roundg 0
      case measure => decide
      case rel => exact .inr ⟨rfl, _, _, rfl, HO, HB3⟩
    · obtain ⟨g, cap, rfl, hg, hc⟩ := own_one HO.out
      clear HO
      have hB0 : Lib.IsBuilder 255 5 wr.heap.size wr.heap.size [] (wr.alloc (.cells #[.pointer none, .slice none 0 0] 255)) :=
        .inl ⟨Nat.le_refl _, .slice none 0 0, heap_alloc_new wr _, ⟨rfl, .inl ⟨rfl, rfl⟩⟩, by simp [Value.ownBlock]⟩
      have HB0 := Lib.hid hB0
      have HWS := Lib.hid (writeString_any wr.heap.size wr.heap.size [] ⟨l.toArray⟩ _ hB0 (by simp [ByteArray.size]; omega) (by simp))
      clear hB0
      go_wp2_with fail
      refine HWS.out.mono ?_
      rintro e w4 ⟨rfl, h4, hb4⟩
      have H4 : Hid (Lib.IsBuilder 255 5 wr.heap.size wr.heap.size (Lib.byteCells l) w4) := Lib.hid (.inr h4)
      have HB4 : Hid (Below w.heap.size w w4) := Lib.hid (HB.out.trans (((Below.refl _ wr).alloc (Nat.le_refl _) _).trans hb4 |>.mono HB.out.size))
      have hsz : wr.heap.size ≤ w4.heap.size := by have := hb4.size; simp at this; omega
      clear h4 hb4
      go_wp2_with fail
      refine wp_loop_rounds 1 ?_
      rw [rounds_succ]
      go_wp2_with fail
      refine (Tryz.Builder_String_any wr.heap.size wr.heap.size l w4 H4.out hsz).mono ?_
      rintro e w5 ⟨rfl, hb5⟩
      go_wp2
      go_ret
      exact ⟨rfl, HB4.out.trans (hb5.mono HB.out.size)⟩

theorem text_zero (a : Option Addr) (ca : Nat) (w : World) : Calls Tryz.prog 154 #[.slice a 0 ca] w (GivesS w [48]) := by
  go_enter Tryz.func154, Tryz.ntmps154
  go_wp2
  go_ret
  exact ⟨rfl, Below.refl _ _⟩
theorem dec_len (n : Nat) (h : n < 100) : (Lib.decDigits n).length ≤ 100 := by
  have : ∀ n : Fin 100, (Lib.decDigits n).length ≤ 100 := by decide +kernel
  exact this ⟨n, h⟩
theorem text_small (a : Option Addr) (ca n : Nat) (w : World) (h : DigsAt w a (nl n) ca n) (hn : n < 100) : Calls Tryz.prog 154 #[.slice a (nl n) ca] w (GivesS w (Lib.decDigits n)) := by
  by_cases h0 : n = 0
  · subst h0
    rw [nl_zero, show Lib.decDigits 0 = [48] by decide +kernel]
    exact text_zero a ca w
  · exact text_one a ca n (Lib.decDigits n) w h h0 (by omega) (dec_len n hn) (fun W => formatUint_small n hn W)

/-- The text of a fraction. -/
def textQ (q : Rat) : List UInt8 := (if neg q then [45] else []) ++ Lib.decDigits (top q) ++ (if q.den = 1 then [] else 47 :: Lib.decDigits q.den)
theorem bytes_add (a b : List UInt8) : (⟨a.toArray⟩ : ByteArray) ++ ⟨b.toArray⟩ = ⟨(a ++ b).toArray⟩ := by
  apply ByteArray.ext
  simp

--CUT
theorem join_ni (a : List UInt8) : Ending.returned (.string (⟨#[45]⟩ ++ ⟨a.toArray⟩)) = .returned (.string ⟨(45 :: a).toArray⟩) := by
  rw [show (⟨#[45]⟩ : ByteArray) = ⟨[45].toArray⟩ from rfl, bytes_add]; rfl
theorem join_pd (a b : List UInt8) : Ending.returned (.string (⟨a.toArray⟩ ++ (⟨#[47]⟩ ++ ⟨b.toArray⟩))) = .returned (.string ⟨(a ++ 47 :: b).toArray⟩) := by
  rw [show (⟨#[47]⟩ : ByteArray) = ⟨[47].toArray⟩ from rfl, bytes_add, bytes_add]; rfl
theorem join_nd (a b : List UInt8) : Ending.returned (.string (⟨#[45]⟩ ++ ⟨a.toArray⟩ ++ (⟨#[47]⟩ ++ ⟨b.toArray⟩))) = .returned (.string ⟨(45 :: a ++ 47 :: b).toArray⟩) := by
  rw [show (⟨#[45]⟩ : ByteArray) = ⟨[45].toArray⟩ from rfl, show (⟨#[47]⟩ : ByteArray) = ⟨[47].toArray⟩ from rfl, bytes_add, bytes_add, bytes_add]; rfl

set_option maxHeartbeats 1000000 in
theorem text_case_pi {w : World} (a : Option Addr) (c n : Nat) (hD : DigsAt w a (nl n) c n) (hn : n < 100) :
    Calls Tryz.prog 86 #[.agg #[.bool false, .slice a (nl n) c, .slice none 0 0]] w (GivesS w (Lib.decDigits n)) := by
  have hnil := fun w (a : Option Addr) n c => run_neq_slice_nil (P := Tryz.prog) (w := w) 26 154 a n c Tryz.underlying26
  have HT := Lib.hid (fun W (hW : Below w.heap.size w W) => text_small a c n W (hD.mono hW) hn)
  have HM0 := Lib.hid (Mem.new (Mem.start w) 28 [.bool false, .slice a (nl n) c, .slice none 0 0])
  have hl1 := dec_len n hn
  have b0 : ¬ 9223372036854775807 < 1 + (Lib.decDigits n).length := by omega
  clear hD
  go_enter Tryz.func86, Tryz.ntmps86
  go_wp2_with fail
  refine (HT.out _ HM0.out.d).mono ?_
  rintro e w1 ⟨rfl, hb1⟩
  have HM1 := Lib.hid (HM0.out.call hb1)
  obtain ⟨k0, k1, k2⟩ := S3 (HM1.out.box (i := 0) rfl)
  clear hb1
  go_wp2
  go_ret
  exact ⟨rfl, HM1.out.d⟩

set_option maxHeartbeats 1000000 in
theorem text_case_pd {w : World} (a : Option Addr) (c n : Nat) (b : Addr) (k d : Nat) (hD : DigsAt w a (nl n) c n) (hn : n < 100) (hB : DigsAt w (some b) (nl d) k d) (hd : d < 100) :
    Calls Tryz.prog 86 #[.agg #[.bool false, .slice a (nl n) c, .slice (some b) (nl d) k]] w (GivesS w (Lib.decDigits n ++ 47 :: Lib.decDigits d)) := by
  have hnil := fun w (a : Option Addr) n c => run_neq_slice_nil (P := Tryz.prog) (w := w) 26 154 a n c Tryz.underlying26
  have HT := Lib.hid (fun W (hW : Below w.heap.size w W) => text_small a c n W (hD.mono hW) hn)
  have HD := Lib.hid (fun W (hW : Below w.heap.size w W) => text_small (some b) k d W (hB.mono hW) hd)
  have HM0 := Lib.hid (Mem.new (Mem.start w) 28 [.bool false, .slice a (nl n) c, .slice (some b) (nl d) k])
  have hl1 := dec_len n hn
  have b0 : ¬ 9223372036854775807 < 1 + (Lib.decDigits n).length := by omega
  have hl2 := dec_len d hd
  have b1 : ¬ 9223372036854775807 < 1 + (Lib.decDigits d).length := by omega
  have b2 : ¬ 9223372036854775807 < (Lib.decDigits n).length + (1 + (Lib.decDigits d).length) := by omega
  have b3 : ¬ 9223372036854775807 < 1 + (Lib.decDigits n).length + (1 + (Lib.decDigits d).length) := by omega
  clear hD hB
  go_enter Tryz.func86, Tryz.ntmps86
  go_wp2_with fail
  refine (HT.out _ HM0.out.d).mono ?_
  rintro e w1 ⟨rfl, hb1⟩
  have HM1 := Lib.hid (HM0.out.call hb1)
  obtain ⟨k0, k1, k2⟩ := S3 (HM1.out.box (i := 0) rfl)
  clear hb1
  go_wp2_with fail
  refine (HD.out _ HM1.out.d).mono ?_
  rintro e w2 ⟨rfl, hb2⟩
  have HM2 := Lib.hid (HM1.out.call hb2)
  obtain ⟨k0, k1, k2⟩ := S3 (HM2.out.box (i := 0) rfl)
  clear hb2
  go_wp2
  go_ret
  exact ⟨join_pd _ _, HM2.out.d⟩

set_option maxHeartbeats 1000000 in
theorem text_case_ni {w : World} (a : Option Addr) (c n : Nat) (hD : DigsAt w a (nl n) c n) (hn : n < 100) :
    Calls Tryz.prog 86 #[.agg #[.bool true, .slice a (nl n) c, .slice none 0 0]] w (GivesS w (45 :: Lib.decDigits n)) := by
  have hnil := fun w (a : Option Addr) n c => run_neq_slice_nil (P := Tryz.prog) (w := w) 26 154 a n c Tryz.underlying26
  have HT := Lib.hid (fun W (hW : Below w.heap.size w W) => text_small a c n W (hD.mono hW) hn)
  have HM0 := Lib.hid (Mem.new (Mem.start w) 28 [.bool true, .slice a (nl n) c, .slice none 0 0])
  have hl1 := dec_len n hn
  have b0 : ¬ 9223372036854775807 < 1 + (Lib.decDigits n).length := by omega
  clear hD
  go_enter Tryz.func86, Tryz.ntmps86
  go_wp2_with fail
  refine (HT.out _ HM0.out.d).mono ?_
  rintro e w1 ⟨rfl, hb1⟩
  have HM1 := Lib.hid (HM0.out.call hb1)
  obtain ⟨k0, k1, k2⟩ := S3 (HM1.out.box (i := 0) rfl)
  clear hb1
  go_wp2
  go_ret
  exact ⟨join_ni _, HM1.out.d⟩

set_option maxHeartbeats 1000000 in
theorem text_case_nd {w : World} (a : Option Addr) (c n : Nat) (b : Addr) (k d : Nat) (hD : DigsAt w a (nl n) c n) (hn : n < 100) (hB : DigsAt w (some b) (nl d) k d) (hd : d < 100) :
    Calls Tryz.prog 86 #[.agg #[.bool true, .slice a (nl n) c, .slice (some b) (nl d) k]] w (GivesS w (45 :: Lib.decDigits n ++ 47 :: Lib.decDigits d)) := by
  have hnil := fun w (a : Option Addr) n c => run_neq_slice_nil (P := Tryz.prog) (w := w) 26 154 a n c Tryz.underlying26
  have HT := Lib.hid (fun W (hW : Below w.heap.size w W) => text_small a c n W (hD.mono hW) hn)
  have HD := Lib.hid (fun W (hW : Below w.heap.size w W) => text_small (some b) k d W (hB.mono hW) hd)
  have HM0 := Lib.hid (Mem.new (Mem.start w) 28 [.bool true, .slice a (nl n) c, .slice (some b) (nl d) k])
  have hl1 := dec_len n hn
  have b0 : ¬ 9223372036854775807 < 1 + (Lib.decDigits n).length := by omega
  have hl2 := dec_len d hd
  have b1 : ¬ 9223372036854775807 < 1 + (Lib.decDigits d).length := by omega
  have b2 : ¬ 9223372036854775807 < (Lib.decDigits n).length + (1 + (Lib.decDigits d).length) := by omega
  have b3 : ¬ 9223372036854775807 < 1 + (Lib.decDigits n).length + (1 + (Lib.decDigits d).length) := by omega
  clear hD hB
  go_enter Tryz.func86, Tryz.ntmps86
  go_wp2_with fail
  refine (HT.out _ HM0.out.d).mono ?_
  rintro e w1 ⟨rfl, hb1⟩
  have HM1 := Lib.hid (HM0.out.call hb1)
  obtain ⟨k0, k1, k2⟩ := S3 (HM1.out.box (i := 0) rfl)
  clear hb1
  go_wp2_with fail
  refine (HD.out _ HM1.out.d).mono ?_
  rintro e w2 ⟨rfl, hb2⟩
  have HM2 := Lib.hid (HM1.out.call hb2)
  obtain ⟨k0, k1, k2⟩ := S3 (HM2.out.box (i := 0) rfl)
  clear hb2
  go_wp2
  go_ret
  exact ⟨join_nd _ _, HM2.out.d⟩

theorem Text_small {w : World} {v : Value} {q : Rat} (h : FracAt w v q) (hn : top q < 100) (hd : q.den < 100) : Calls Tryz.prog 86 #[v] w (GivesS w (textQ q)) := by
  unfold textQ
  obtain ⟨a, c, ab, nb, cb, rfl, hD, hB⟩ := h
  rcases hB with ⟨h1, e⟩ | ⟨h1, b, k, e, hB⟩
  · cases e
    rw [if_pos h1, List.append_nil]
    by_cases hs : neg q = true
    · rw [hs, if_pos rfl]
      exact text_case_ni a c (top q) hD hn
    · rw [Bool.not_eq_true] at hs
      rw [hs]
      exact text_case_pi a c (top q) hD hn
  · cases e
    rw [if_neg h1]
    by_cases hs : neg q = true
    · rw [hs, if_pos rfl]
      exact text_case_nd a c (top q) b _ q.den hD hn hB hd
    · rw [Bool.not_eq_true] at hs
      rw [hs]
      exact text_case_pd a c (top q) b _ q.den hD hn hB hd
end Go.Proofs.YtkkgibnoggickaaGreatDoor
