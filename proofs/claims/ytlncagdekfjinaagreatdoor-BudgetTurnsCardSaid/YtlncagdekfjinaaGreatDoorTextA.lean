/- Texts of natural numbers and fractions. -/
import Derived.Lib.ItoaNum
import Derived.Test.YtlncagdekfjinaaGreatDoorBase
import Derived.Lib.AppendIntMem
import Derived.Lib.ItoaMem
import Derived.Lib.Walk
import Derived.WalkKit
import Derived.Test.YtlncagdekfjinaaGreatDoorDivw
import Derived.Test.YtlncagdekfjinaaGreatDoorFracM
import Derived.Test.YtlncagdekfjinaaGreatDoorMem
import Derived.Shelf.Strings.Builder1
import Derived.Lib.Builder
import Derived.Deep.LoopGhost
import Derived.Test.YtlncagdekfjinaaGreatDoorDivide
import Derived.Test.YtlncagdekfjinaaGreatDoorSub
namespace Go.Proofs.YtlncagdekfjinaaGreatDoor
namespace D10
open Lib
def digs : Nat → Nat → List UInt8
  | 0, _ => []
  | k + 1, r => digs k (r / 10) ++ [UInt8.ofNat (48 + r % 10)]
theorem dec_big {u : Nat} (h : ¬ u < 10) : decDigits u = decDigits (u / 10) ++ [UInt8.ofNat (48 + u % 10)] := by rw [decDigits, dif_neg h]
theorem dec_split : ∀ (k n : Nat), 10 ^ k ≤ n → decDigits n = decDigits (n / 10 ^ k) ++ digs k n
  | 0, n, _ => by simp [digs]
  | k + 1, n, h => by
    have h1 : 1 ≤ 10 ^ k := Nat.one_le_pow _ _ (by decide)
    rw [Nat.pow_succ] at h
    have h2 : 10 ^ k ≤ n / 10 := (Nat.le_div_iff_mul_le (by decide)).2 h
    rw [dec_big (by omega), dec_split k (n / 10) h2, Nat.div_div_eq_div_mul, Nat.pow_succ, Nat.mul_comm 10, digs, List.append_assoc]
theorem digs_mod : ∀ (k n : Nat), digs k (n % 10 ^ k) = digs k n
  | 0, _ => rfl
  | k + 1, n => by
    have e1 : n % 10 ^ (k + 1) / 10 = n / 10 % 10 ^ k := by
      rw [Nat.pow_succ, Nat.mul_comm, Nat.mod_mul_right_div_self]
    have e2 : n % 10 ^ (k + 1) % 10 = n % 10 := by
      rw [Nat.pow_succ, Nat.mul_comm, Nat.mod_mul_right_mod]
    rw [digs, digs, e1, e2, digs_mod k (n / 10)]
theorem digs_pad : ∀ (k r : Nat), r < 10 ^ (k + 1) → digs (k + 1) r = List.replicate (k + 1 - nDigits r) 48 ++ decDigits r
  | 0, r, h => by
    have h : r < 10 := by simpa using h
    rw [nDigits_small h, decDigits_one h]
    simp [digs, Nat.mod_eq_of_lt h]
  | k + 1, r, h => by
    rw [Nat.pow_succ] at h
    have h2 : r / 10 < 10 ^ (k + 1) := Nat.div_lt_of_lt_mul (by rw [Nat.mul_comm]; exact h)
    have ih := digs_pad k (r / 10) h2
    rw [digs, ih]
    by_cases h3 : r < 10
    · rw [nDigits_small h3, decDigits_one h3, Nat.div_eq_of_lt h3, Nat.mod_eq_of_lt h3, nDigits_small (by decide), decDigits_one (by decide)]
      rw [show k + 1 + 1 - 1 = k + 1 from rfl, List.replicate_succ' (n := k)]
      rfl
    · rw [nDigits_big h3, dec_big h3, List.append_assoc]
      rw [show k + 1 + 1 - (nDigits (r / 10) + 1) = k + 1 - nDigits (r / 10) by omega]
def CH : Nat := 10000000000000000000
theorem ch_eq : CH = 10 ^ (18 + 1) := by decide
def pad (r : Nat) : List UInt8 := List.replicate (19 - (decDigits r).length) 48 ++ decDigits r
theorem dec_chunk {n : Nat} (h : CH ≤ n) : decDigits n = decDigits (n / CH) ++ pad (n % CH) := by
  have hm : n % CH < 10 ^ (18 + 1) := by rw [← ch_eq]; exact Nat.mod_lt _ (by decide)
  unfold pad
  rw [decDigits_length, ← digs_pad 18 (n % CH) hm]
  rw [ch_eq] at h ⊢
  rw [digs_mod]
  exact dec_split _ n h
theorem nDigits_le : ∀ (k n : Nat), n < 10 ^ (k + 1) → nDigits n ≤ k + 1
  | 0, n, h => by rw [nDigits_small (by simpa using h)]; exact Nat.le_refl _
  | k + 1, n, h => by
    by_cases h1 : n < 10
    · rw [nDigits_small h1]; omega
    · rw [Nat.pow_succ] at h
      rw [nDigits_big h1]
      have := nDigits_le k (n / 10) (Nat.div_lt_of_lt_mul (by rw [Nat.mul_comm]; exact h))
      omega
def Rem10 (N M : Nat) (s : List UInt8) : Prop := (M ≠ 0 → decDigits N = decDigits M ++ s) ∧ (M = 0 → decDigits N = s)
theorem Rem10.step {N M : Nat} {s : List UInt8} (h : Rem10 N M s) (h0 : M ≠ 0) : Rem10 N (M / 10) (UInt8.ofNat (48 + M % 10) :: s) := by
  have h1 := h.1 h0
  by_cases h2 : M < 10
  · refine ⟨fun e => absurd (Nat.div_eq_of_lt h2) e, fun _ => ?_⟩
    rw [h1, decDigits_one h2, Nat.mod_eq_of_lt h2]; rfl
  · refine ⟨fun _ => ?_, fun e => ?_⟩
    · rw [h1, dec_big h2, List.append_assoc]; rfl
    · omega
theorem Rem10.start {N : Nat} (h : N ≠ 0) : Rem10 N N [] := ⟨fun _ => by simp, fun e => absurd e h⟩
def padS (s : List UInt8) : List UInt8 := List.replicate (19 - s.length) 48 ++ s
def ptail (l : List (List UInt8)) : List UInt8 := l.foldl (fun acc s => padS s ++ acc) []
theorem ptail_snoc (l : List (List UInt8)) (s : List UInt8) : ptail (l ++ [s]) = padS s ++ ptail l := by
  unfold ptail; rw [List.foldl_append]; rfl
def Ch (n x : Nat) (l : List (List UInt8)) : Prop :=
  (x ≠ 0 → decDigits n = decDigits x ++ ptail l) ∧ (x = 0 → ∃ l' s, l = l' ++ [s] ∧ decDigits n = s ++ ptail l') ∧ ∀ s ∈ l, 1 ≤ s.length ∧ s.length ≤ 19
theorem Ch.start {n : Nat} (h : n ≠ 0) : Ch n n [] := ⟨fun _ => by simp [ptail], fun e => absurd e h, fun s hs => by cases hs⟩
theorem dec_le19 {r : Nat} (h : r < CH) : 1 ≤ (decDigits r).length ∧ (decDigits r).length ≤ 19 := by
  rw [decDigits_length]
  exact ⟨nDigits_pos r, nDigits_le 18 r (by rw [← ch_eq]; exact h)⟩
theorem Ch.step {n x : Nat} {l : List (List UInt8)} (h : Ch n x l) (h0 : x ≠ 0) : Ch n (x / CH) (l ++ [decDigits (x % CH)]) := by
  have h1 := h.1 h0
  have hr : x % CH < CH := Nat.mod_lt _ (by decide)
  refine ⟨fun e => ?_, fun e => ?_, fun s hs => ?_⟩
  · have hx : CH ≤ x := by
      apply Nat.le_of_not_lt
      intro hlt
      exact e (Nat.div_eq_of_lt hlt)
    rw [h1, dec_chunk hx, ptail_snoc, List.append_assoc]
    rfl
  · have hx : x < CH := by
      apply Nat.lt_of_not_le
      intro hle
      have := Nat.div_pos hle (show 0 < CH by decide)
      omega
    exact ⟨l, decDigits (x % CH), rfl, by rw [h1, Nat.mod_eq_of_lt hx]⟩
  · rcases List.mem_append.1 hs with hs | hs
    · exact h.2.2 s hs
    · simp at hs; subst hs; exact dec_le19 hr
theorem take_succ' {α : Type} (l : List α) (i : Nat) (h : i < l.length) : l.take (i + 1) = l.take i ++ [l[i]] := by
  rw [List.take_add_one, List.getElem?_eq_getElem h]; rfl
theorem fold_len : ∀ (l : List (List UInt8)) (acc : List UInt8), (∀ s ∈ l, 1 ≤ s.length ∧ s.length ≤ 19) → (l.foldl (fun acc s => padS s ++ acc) acc).length = 19 * l.length + acc.length
  | [], acc, _ => by simp
  | s :: l, acc, h => by
    have h1 := h s (by simp)
    rw [List.foldl_cons, fold_len l _ fun s hs => h s (List.mem_cons_of_mem _ hs)]
    unfold padS
    rw [List.length_append, List.length_append, List.length_replicate, List.length_cons]
    omega
theorem ptail_len (l : List (List UInt8)) (h : ∀ s ∈ l, 1 ≤ s.length ∧ s.length ≤ 19) : (ptail l).length = 19 * l.length := by
  unfold ptail; rw [fold_len l [] h]; simp
end D10
end Go.Proofs.YtlncagdekfjinaaGreatDoor
namespace Go.Proofs.YtlncagdekfjinaaGreatDoor
open Go.RowKit Go.Sort Go.Lib
theorem lenF : Tryz.prog.arrayLen 287 = 24 := by kernel_rfl
set_option maxHeartbeats 6400000 in
set_option maxRecDepth 100000 in
theorem formatUint_big (u : Nat) (hu1 : 100 ≤ u) (hu64 : u < 18446744073709551616) (w : World) (htab : Lib.TabIs Tryz.prog w "internal/strconv.uint64pow10" .u64 Lib.pow10Tab) :
    Calls Tryz.prog 198 #[.int .u64 u, .int .i64 10] w fun e w' => e = .returned (.string ⟨(Lib.decDigits u).toArray⟩) ∧ Below w.heap.size w w' := by
  have hnd20 : Lib.nDigits u ≤ 20 := by have := Lib.numDigits_eq u (by omega) hu64; split at this <;> omega
  have hb3 : Lib.nDigits u ≤ 24 := by omega
  have hbig : ¬ (u : Int) < 100 := by omega
  have hsl1 : ∀ W, (Instr.sliceAt 287 (.pointer (some ⟨w.heap.size, 0, none⟩)) none (some (.int .i64 (Lib.nDigits u : Int))) none).run Tryz.prog W = .ok (.slice (some ⟨w.heap.size, 0, none⟩) (Lib.nDigits u) 24) W := fun W => by
    rw [run_sliceAt_array_h W 287 ⟨w.heap.size, 0, none⟩ (by kernel_rfl) .i64 (Lib.nDigits u : Int) (by omega) (by rw [lenF]; omega)]
    go_simp
  have hH0 := Lib.holds_zero0 w 287 (Lib.nDigits u) hb3
  have hfmt := Tryz.internal_strconv_formatBase10 w.heap.size 0 24 u (Array.replicate (Lib.nDigits u) 0) (w.alloc (.cells Lib.zeros24 287)) hH0 (by rw [Array.size_replicate]; exact Lib.lt_pow_nDigits u) hu64 (by rw [Array.size_replicate]; omega)
  rw [Array.size_replicate] at hfmt
  have HH0 := Lib.hid hH0
  clear hH0
  go_enter Tryz.func198, Tryz.ntmps198
  go_wp2_with (first
    | (go_at_call 223; refine (Tryz.internal_strconv_numDigits u (by omega) hu64 _ (Lib.tabIs_alloc htab _)).mono ?_; rintro e w' ⟨rfl, rfl⟩))
  go_at_call 224
  refine hfmt.mono ?_
  rintro e w' ⟨rfl, k, v', dk, rfl, hF⟩
  have hcv : (convert 31 9 (.slice (some ⟨w.heap.size, 0, none⟩) (Lib.nDigits u) 24)).run Tryz.prog ((putRow (fun (b : UInt8) => Value.int .u8 (b.toNat : Int)) (w.alloc (.cells Lib.zeros24 287)) w.heap.size 0 dk).drewN k) = .ok (.string ⟨(Lib.decDigits u).toArray⟩) ((putRow (fun (b : UInt8) => Value.int .u8 (b.toNat : Int)) (w.alloc (.cells Lib.zeros24 287)) w.heap.size 0 dk).drewN k) := by
    have h := run_convert_bytes_back (P := Tryz.prog) ((putRow (fun (b : UInt8) => Value.int .u8 (b.toNat : Int)) (w.alloc (.cells Lib.zeros24 287)) w.heap.size 0 dk).drewN k) 31 9 5 ⟨w.heap.size, 0, none⟩ 24 (Lib.decDigits u) Tryz.underlying31 Tryz.underlying5 Tryz.underlying9 (fun j hj => by
      rw [Lib.row_is_numeral hF j hj, Lib.add_plain, World.cell?_drewN]
      exact cell?_putRow (fun (b : UInt8) => Value.int .u8 (b.toNat : Int)) _ w.heap.size 0 _ dk HH0.out (by rw [hF.size, Array.size_replicate]) j (by rw [hF.size]; rw [Lib.decDigits_length] at hj; exact hj))
    rw [Lib.decDigits_length] at h
    exact h
  go_wp2
  go_ret
  obtain ⟨os, eo⟩ := Lib.fin_at w (.cells Lib.zeros24 287) dk k 0
  refine ⟨rfl, ?_⟩
  rw [eo]
  exact Lib.below_grow _ w (Nat.le_refl _) k os
theorem formatUint_any (u : Nat) (hu64 : u < 18446744073709551616) (w : World) (htab : Lib.TabIs Tryz.prog w "internal/strconv.uint64pow10" .u64 Lib.pow10Tab) :
    Calls Tryz.prog 198 #[.int .u64 u, .int .i64 10] w fun e w' => e = .returned (.string ⟨(Lib.decDigits u).toArray⟩) ∧ Below w.heap.size w w' := by
  by_cases h : u < 100
  · have h' : (u : Int) < 100 := by omega
    go_enter Tryz.func198, Tryz.ntmps198
    go_wp2_with fail
    refine (Tryz.internal_strconv_small u h w).mono ?_
    rintro e w' ⟨rfl, rfl⟩
    go_wp2
    go_ret
    exact ⟨rfl, Below.refl _ _⟩
  · exact formatUint_big u (by omega) hu64 w htab
theorem FormatUint_any (u : Nat) (hu64 : u < 18446744073709551616) (w : World) (htab : Lib.TabIs Tryz.prog w "internal/strconv.uint64pow10" .u64 Lib.pow10Tab) :
    Calls Tryz.prog 166 #[.int .u64 u, .int .i64 10] w fun e w' => e = .returned (.string ⟨(Lib.decDigits u).toArray⟩) ∧ Below w.heap.size w w' := by
  go_enter Tryz.func166, Tryz.ntmps166
  go_wp2_with fail
  refine (formatUint_any u hu64 w htab).mono ?_
  rintro e w' ⟨rfl, hb⟩
  have HB := Lib.hid hb
  clear hb
  go_wp2
  go_ret
  exact ⟨rfl, HB.out⟩
end Go.Proofs.YtlncagdekfjinaaGreatDoor
namespace Go.Proofs.YtlncagdekfjinaaGreatDoor
open Go.RowKit Go.Sort Dg Fr
theorem infoBuilder : (Tryz.prog.info? 238).map (·.size) = some 2 := by kernel_rfl
theorem liesBuilder : liesAt Tryz.prog Tryz.prog.depth 238 (2 / Tryz.prog.cellsOf 238) 0 238 1 = true := by kernel_rfl
theorem infoByte : (Tryz.prog.info? 5).map (fun i => (i.zero, i.size, i.bytes)) = some (some (.int .u8 0), 1, 1) := by kernel_rfl
set_option maxRecDepth 100000 in
theorem copyCheck_used (b : Nat) (w : World) (h0 : w.cell? ⟨b, 0, none⟩ = some (.pointer (some ⟨b, 0, none⟩))) :
    Calls Tryz.prog 199 #[.pointer (some ⟨b, 0, none⟩)] w fun e w' => e = .returned (.tuple #[]) ∧ w = w' := by
  obtain ⟨j, hj, _⟩ := Option.map_eq_some_iff.1 infoBuilder
  go_enter Tryz.func199, Tryz.ntmps199
  go_wp2
  rw [Lib.run_neq_ptr_same w _ Tryz.underlying236 hj]
  go_wp2
  go_end0
  exact ⟨rfl, rfl⟩
set_option maxRecDepth 100000 in
theorem copyCheck_fresh (b : Nat) (w : World) (h0 : w.cell? ⟨b, 0, none⟩ = some (.pointer none)) (hsh : w.shape? b = some (238, 2)) (hfz : w.frozen? ⟨b, 0, none⟩ = false) :
    Calls Tryz.prog 199 #[.pointer (some ⟨b, 0, none⟩)] w fun e w' => e = .returned (.tuple #[]) ∧ w.setCell ⟨b, 0, none⟩ (.pointer (some ⟨b, 0, none⟩)) = w' := by
  obtain ⟨j, hj, hjs⟩ := Option.map_eq_some_iff.1 infoBuilder
  go_enter Tryz.func199, Tryz.ntmps199
  go_wp2
  rw [Lib.run_to_unsafe w ⟨b, 0, none⟩ Tryz.underlying236 Tryz.underlying291 hj (by rw [hjs]; decide) hsh (Nat.zero_lt_succ 1)]
  simp only [Result.andThen]
  rw [Oper.upon_value]
  go_wp2
  rw [run_callFunc_extern Tryz.func226 (by kernel_rfl) (by kernel_rfl) (by kernel_rfl) (e := Extern.AbiNoEscape.same) (by kernel_rfl)]
  rw [Lib.run_noEscape]
  simp only [Result.andThen]
  rw [Oper.upon_value]
  go_wp2
  rw [Lib.run_from_unsafe w ⟨b, 0, none⟩ Tryz.underlying291 Tryz.underlying236 hj hsh liesBuilder]
  simp only [Result.andThen]
  rw [Oper.upon_value]
  go_wp2
  go_end0
  exact ⟨rfl, rfl⟩
theorem copyCheck_any (B b : Nat) (bs : List Value) (w : World) (h : Lib.IsBuilder 238 5 B b bs w) :
    Calls Tryz.prog 199 #[.pointer (some ⟨b, 0, none⟩)] w fun e w' => e = .returned (.tuple #[]) ∧ (Lib.BuilderAt 238 5 B b (.pointer (some ⟨b, 0, none⟩)) bs w' ∧ Below B w w') := by
  rcases h with h | h
  · refine (copyCheck_fresh b w h.cell0 h.shape h.frozen0).mono ?_
    rintro e w' ⟨rfl, rfl⟩
    exact ⟨rfl, h.used _, (Below.refl B w).setCell (p := ⟨b, 0, none⟩) h.1 _⟩
  · refine (copyCheck_used b w h.cell0).mono ?_
    rintro e w' ⟨rfl, rfl⟩
    exact ⟨rfl, h, Below.refl B _⟩
set_option maxHeartbeats 2000000 in
set_option maxRecDepth 100000 in
theorem writeString_any (B b : Nat) (bs : List Value) (s : ByteArray) (w : World) (h : Lib.IsBuilder 238 5 B b bs w) (hlen : bs.length + s.size ≤ 140737488355328) (hBw : B ≤ w.heap.size) :
    Calls Tryz.prog 167 #[.pointer (some ⟨b, 0, none⟩), .string s] w fun e w' => e = .returned (.tuple #[.int .i64 s.size, .nilIface]) ∧ (Lib.BuilderAt 238 5 B b (.pointer (some ⟨b, 0, none⟩)) (bs ++ Lib.strCells s) w' ∧ Below B w w') := by
  obtain ⟨i0, hi, hz0, hz1, hz2⟩ := info_parts infoByte
  have HI := Lib.hid hi
  have HZ0 := Lib.hid hz0
  have HZ1 := Lib.hid hz1
  have HZ2 := Lib.hid hz2
  clear hi hz0 hz1 hz2
  go_enter Tryz.func167, Tryz.ntmps167
  go_wp2_with fail
  refine (copyCheck_any B b bs _ h).mono ?_
  rintro e w1 ⟨rfl, h1, hb1⟩
  obtain ⟨hB, v, hbk, hown, hne⟩ := h1
  have c0 : w1.cell? ⟨b, 0, none⟩ = some (.pointer (some ⟨b, 0, none⟩)) := by rw [Lib.cell_of_heap hbk]; rfl
  have c1 : w1.cell? ⟨b, 1, none⟩ = some v := by rw [Lib.cell_of_heap hbk]; rfl
  have HBK := Lib.hid hbk
  clear hbk h
  go_wp2_with (at_builtin; refine Lib.wpList_append_own_string _ rfl _ _ 31 9 rfl B 5 i0 Tryz.underlying31 Tryz.underlying9 HI.out HZ0.out HZ1.out HZ2.out _ _ _ rfl hown s rfl ?c3 ?c4 ?c5 ?_)
  case c3 => unfold maxLen; omega
  case c4 => omega
  case c5 => have := hb1.size; omega
  intro v' w2 hown' hgrow _
  have hlt : b < w1.heap.size := by
    rcases Nat.lt_or_ge b w1.heap.size with h' | h'
    · exact h'
    · have := HBK.out; simp [Array.getElem?_eq_none h'] at this
  have hb2 : w2.heap[b]? = some (.cells #[.pointer (some ⟨b, 0, none⟩), v] 238 (0, 0)) := by
    rw [hgrow.block b hlt (fun e => hne e.symm)]
    exact HBK.out
  have d0 : w2.cell? ⟨b, 0, none⟩ = some (.pointer (some ⟨b, 0, none⟩)) := by rw [Lib.cell_of_heap hb2]; rfl
  have d1 : w2.cell? ⟨b, 1, none⟩ = some v := by rw [Lib.cell_of_heap hb2]; rfl
  have f1 : w2.frozen? ⟨b, 1, none⟩ = false := Lib.frozen_of_heap hb2 1
  obtain ⟨ao, n', cap, rfl⟩ : ∃ ao n' cap, v' = .slice ao n' cap := by
    rcases hown'.2 with ⟨hv, _⟩ | ⟨g, cap, cur, hv, _⟩
    · exact ⟨_, _, _, hv⟩
    · exact ⟨_, _, _, hv⟩
  have HB2 := Lib.hid hb2
  clear hb2
  go_wp2
  go_ret2
  refine ⟨rfl, ?_, ?_⟩
  · exact Lib.BuilderAt.put (T := 238) (e := 5) hB HB2.out (bs' := bs ++ Lib.strCells s) (by simpa [Lib.strCells_length] using hown') (by decide)
  · exact (hb1.grown hgrow (by have := hb1.size; omega) (fun k hk => (hown.lt k hk).1)).setCell (p := ⟨b, 1, none⟩) hB _
theorem info_str : (Tryz.prog.info? 9).map (fun i => (i.zero, i.size, i.bytes)) = some (some (.string ByteArray.empty), 1, 16) := by kernel_rfl
def GivesS (w : World) (l : List UInt8) (e : Ending) (w' : World) : Prop := e = .returned (.string ⟨l.toArray⟩) ∧ Below w.heap.size w w'
theorem one_string (W : World) (s : ByteArray) : ∀ (j : Nat) (u : Value), ([Value.string s] : List Value)[j]? = some u → (W.alloc (.cells #[.string s] 9)).cell? ((⟨W.heap.size, 0, none⟩ : Addr).add j) = some u := by
  intro j u hj
  rcases j with _ | j
  · simp at hj; subst hj
    rw [show (⟨W.heap.size, 0, none⟩ : Addr).add 0 = ⟨W.heap.size, 0, none⟩ from rfl]
    exact (Box.new W 9 #[.string s]).at_ rfl
  · simp at hj
end Go.Proofs.YtlncagdekfjinaaGreatDoor
namespace Go.Proofs.YtlncagdekfjinaaGreatDoor
open Go.RowKit Go.Sort Dg Fr D10
theorem own_below {w w' : World} {base n size : Nat} {e : TypeId} {v : Value} {xs : List Value} (h : w.ownsRow base e size v n xs) (hb : Below w.heap.size w w') : w'.ownsRow base e size v n xs :=
  h.kept (row := none) ⟨hb.os, hb.tape, hb.output, hb.size, fun k hk _ => hb.block k hk⟩ (by
    rcases e0 : v.ownBlock with _ | k
    · exact .inl rfl
    · exact .inr (by simp))
theorem divideWord_new (a : Option Addr) (ca x d : Nat) (w : World) (h : DigsAt w a (nl x) ca x) (hn : nl x ≤ 68719476736) (hd : 0 < d) (hdB : d < B) :
    Calls Tryz.prog 165 #[.slice a (nl x) ca, u64 d] w fun e w' =>
      ∃ a' c', e = .returned (.tuple #[.slice a' (nl (x / d)) c', u64 (x % d)]) ∧ DigsAt w' a' (nl (x / d)) c' (x / d) ∧ Below w.heap.size w w' ∧ ∀ p, a' = some p → w.heap.size ≤ p.block := by
  have hxl := lt_nl x
  have hqn : nl (x / d) ≤ nl x := nl_mono (Nat.div_le_self _ _)
  have HQN := Lib.hid hqn
  clear hqn
  generalize nl x = n at *
  have hmk := fun w => mk_run (n : Int) n rfl (by omega) w
  have hr := mk_row w n
  have hsz := mk_size w n
  have HB := Lib.hid (mk_below w n)
  have HS := Lib.hid hsz
  clear hsz
  go_enter Tryz.func165, Tryz.ntmps165
  go_wp2
  go_loopw [7, 8] (fun r i wr => ∃ j q : Nat, j ≤ n ∧ i = .int .i64 ((j : Int) - 1) ∧ r = u64 (x / B ^ j % d) ∧ wr = (rowW (mk w n) w.heap.size 0 n (qrow x d j)).drewN q) (fun _ i _ => (intOf i + 1).toNat)
  case atStart =>
    refine ⟨n, 0, Nat.le_refl _, rfl, ?_, ?_⟩
    · rw [Nat.div_eq_of_lt hxl, Nat.zero_mod]; rfl
    · unfold qrow; rw [Nat.div_eq_of_lt hxl, Nat.zero_div, Nat.zero_mul, hr.self]; rfl
  case round =>
    obtain ⟨j, q, hj, rfl, rfl, rfl⟩ := hrel
    have hbel : Below w.heap.size w (rowW (mk w n) w.heap.size 0 n (qrow x d j)) := rowW_below HB.out (Nat.le_refl _)
    by_cases hj0 : j = 0
    · subst hj0
      have e0 : qrow x d 0 = x / d := by simp [qrow]
      have e1 : x / B ^ 0 % d = x % d := by simp
      have hlt : x / d < B ^ n := Nat.lt_of_le_of_lt (Nat.div_le_self _ _) hxl
      rw [e0] at hbel ⊢
      rw [e1]
      clear e0 e1
      have hd' : DigsAt ((rowW (mk w n) w.heap.size 0 n (x / d)).drewN q) (some ⟨w.heap.size, 0, none⟩) n n (x / d) :=
        ((hr.row (x / d)).digs hlt (by rw [rowW_size, HS.out]; omega) (Nat.le_refl _)).drawn q
      go_wp2_with (first | (go_at_call 175; refine (trim_any _ n n (x / d) _ hd' (by omega)).mono ?_; rintro e w' ⟨rfl, rfl⟩))
      go_ret2
      exact ⟨_, _, rfl, hd'.shrink, below_drawn hbel q, by rintro _ ⟨⟩; exact Nat.le_refl _⟩
    · obtain ⟨b2, o2, rfl, hb2, hc2⟩ := h.cells (by omega)
      obtain ⟨i, rfl⟩ : ∃ i, j = i + 1 := ⟨j - 1, by omega⟩
      have e1 : ((i + 1 : Nat) : Int) - 1 = (i : Int) := by omega
      rw [e1]
      obtain ⟨s1, s2, s3, s4⟩ := qrow_step (x := x) (j := i) hd
      have g0 : (rowW (mk w n) w.heap.size 0 n (qrow x d (i + 1))).cell? ⟨b2, o2 + i, none⟩ = some (u64 (dig x i)) := (hbel.cell (by exact hb2)).trans (hc2 i (by omega))
      have g1 : (rowW (mk w n) w.heap.size 0 n (qrow x d (i + 1))).cell? ⟨w.heap.size, i, none⟩ = some (u64 (dig (qrow x d (i + 1)) i)) := by
        have := hr.cell (u := qrow x d (i + 1)) (i := i) (by omega); rwa [Nat.zero_add] at this
      have g2 : (rowW (mk w n) w.heap.size 0 n (qrow x d (i + 1))).frozen? ⟨w.heap.size, i, none⟩ = false := by
        have := hr.free (u := qrow x d (i + 1)) (i := i) (by omega); rwa [Nat.zero_add] at this
      have hset := rowW_set (w := mk w n) (b := w.heap.size) (off := 0) (n := n) (v := qrow x d (i + 1)) (i := i) (by omega) s2
      rw [s1, Nat.zero_add] at hset
      have hdiv := fun w => div64_any (x / B ^ (i + 1) % d) (dig x i) d (dig_lt _ _) hdB s4 w
      rw [s3] at hdiv
      have HSET := Lib.hid hset
      have HDIV := Lib.hid hdiv
      clear hset s1 s2 s3 hc2 hdiv e1 hj0
      go_wp2_with (first | (go_at_call 197; refine (HDIV.out _).mono ?_; rintro e w' ⟨rfl, q2, rfl⟩))
      go_roundw
      case rel => exact ⟨i, q + q2, by omega, by go_num, rfl, congrArg (fun W => World.drewN W (q + q2)) HSET.out⟩
      case measure => simp [intOf]
theorem DigsAt.grown {w w' : World} {a : Option Addr} {m cap Y B0 : Nat} {row : Option Nat} (h : DigsAt w a m cap Y) (hg : w.grownBy w' row) (hr : ∀ k, row = some k → k < B0) (hn : ∀ p, a = some p → B0 ≤ p.block) : DigsAt w' a m cap Y :=
  ⟨h.lt, h.fit, fun hm => by
    obtain ⟨b, off, e, hlt, hc⟩ := h.cells hm
    refine ⟨b, off, e, Nat.lt_of_lt_of_le hlt hg.size, fun i hi => ?_⟩
    have hb := hn _ e
    exact (World.cell?_of_block (w := w) (a := ⟨b, off + i, none⟩) (hg.block b hlt (fun e2 => by have := hr b e2.symm; simp at hb; omega))).trans (hc i hi)⟩
def strs (l : List (List UInt8)) : List Value := l.map fun s => .string ⟨s.toArray⟩
theorem strs_snoc (l : List (List UInt8)) (s : List UInt8) : strs l ++ [.string ⟨s.toArray⟩] = strs (l ++ [s]) := by unfold strs; simp
theorem own_strs {w : World} {base : Nat} {v : Value} {l : List (List UInt8)} (h : w.ownsRow base 9 1 v l.length (strs l)) (hl : l ≠ []) :
    ∃ g cap, v = .slice (some ⟨g, 0, none⟩) l.length cap ∧ g < w.heap.size ∧ ∀ i (hi : i < l.length), w.cell? ⟨g, i, none⟩ = some (.string ⟨l[i].toArray⟩) := by
  have h0 := h
  obtain ⟨_, h2 | ⟨g, cap, cur, rfl, hb, hg, hmc, _, hs, ht⟩⟩ := h
  · exact absurd (List.length_eq_zero_iff.1 h2.2) hl
  · refine ⟨g, cap, rfl, (Array.getElem?_eq_some_iff.1 hg).1, fun i hi => ?_⟩
    rw [h0.cellAt i (by omega)]
    unfold strs
    rw [List.getElem?_map, List.getElem?_eq_getElem hi]
    rfl
theorem isb_below {T e : TypeId} {B b : Nat} {bs : List Value} {w w' : World} (h : Lib.IsBuilder T e B b bs w) (hb : Below w.heap.size w w') : Lib.IsBuilder T e B b bs w' := by
  have key : ∀ p, Lib.BuilderAt T e B b p bs w → Lib.BuilderAt T e B b p bs w' := fun p h => by
    have hlt := h.lt
    obtain ⟨hB, v, hbk, hown, hne⟩ := h
    exact ⟨hB, v, (hb.block b hlt).trans hbk, own_below hown hb, hne⟩
  exact h.imp (key _) (key _)
theorem cells_cat (a b : List UInt8) : Lib.byteCells a ++ Lib.strCells ⟨b.toArray⟩ = Lib.byteCells (a ++ b) := by
  simp [Lib.byteCells, Lib.strCells]
theorem cells_nil (l : List UInt8) : [] ++ Lib.strCells ⟨l.toArray⟩ = Lib.byteCells l := by simp [Lib.byteCells, Lib.strCells]
theorem repeat_zero (n : Nat) : Lib.repeatL [48] n = List.replicate n 48 := by
  induction n with
  | zero => rfl
  | succ n ih =>
    rw [List.replicate_succ, ← ih]
    rfl
set_option maxHeartbeats 8000000 in
set_option maxRecDepth 100000 in
theorem textL_any (a : Option Addr) (ca n : Nat) (w : World) (h : DigsAt w a (nl n) ca n) (hnl : nl n ≤ 1048576) (hlen : (Lib.decDigits n).length ≤ 1099511627776) (htab : Lib.TabIs Tryz.prog w "internal/strconv.uint64pow10" .u64 Lib.pow10Tab) :
    Calls Tryz.prog 119 #[.slice a (nl n) ca] w (GivesS w (Lib.decDigits n)) := by
  by_cases h0 : n = 0
  · subst h0
    rw [nl_zero, show Lib.decDigits 0 = [48] by decide +kernel]
    go_enter Tryz.func119, Tryz.ntmps119
    go_wp2
    go_ret
    exact ⟨rfl, Below.refl _ _⟩
  · have hp := nl_pos h0
    have g0 : ((nl n : Int) == 0) = false := by rw [beq_eq_false_iff_ne]; omega
    obtain ⟨i0, hi, hz0, hz1, hz2⟩ := info_parts info_str
    have HI := Lib.hid hi
    have HZ0 := Lib.hid hz0
    have HZ1 := Lib.hid hz1
    have HZ2 := Lib.hid hz2
    have HC := Lib.hid (Ch.start h0)
    have HT := Lib.hid (fun W (hW : Below w.heap.size w W) => Lib.tabBelow_of_tabIs htab W hW)
    have HL := Lib.hid (And.intro hlen (And.intro h0 hnl))
    have HD := Lib.hid h
    clear hi hz0 hz1 hz2 h h0 hlen htab hnl hp
    go_enter Tryz.func119, Tryz.ntmps119
    go_wp2_with fail
    go_loopg [0, 3] n (fun x v0 v3 wr => ∃ (a' : Option Addr) (c' : Nat) (l : List (List UInt8)), v0 = .slice a' (nl x) c' ∧ Hid (DigsAt wr a' (nl x) c' x) ∧ Hid (x ≤ n) ∧ Hid (Ch n x l) ∧ Hid (wr.ownsRow w.heap.size 9 1 v3 l.length (strs l)) ∧ Hid (Below w.heap.size w wr))
    case atStart => exact ⟨a, ca, [], rfl, HD, Nat.le_refl _, HC, World.ownsRow_nil _ _ _ _, Below.refl _ _⟩
    case round =>
      obtain ⟨a', c', l, rfl, HX, HXN, HCH, HO, HB⟩ := hrel
      clear HC HD g0
      by_cases hx : gk = 0
      · subst hx
        have hz : nl 0 = 0 := nl_zero
        clear HX HXN
        rw [hz]
        obtain ⟨l', s, hl, hdec⟩ := HCH.out.2.1 rfl
        subst hl
        have hne : l' ++ [s] ≠ [] := by simp
        obtain ⟨g, cap, rfl, hg, hcells⟩ := own_strs HO.out hne
        have hN : (l' ++ [s]).length = l'.length + 1 := by simp
        have hlens := HCH.out.2.2
        have htl : s.length + 19 * l'.length ≤ 1099511627776 := by
          have h1 := HL.out.1
          rw [hdec, List.length_append, ptail_len l' fun x hx => hlens x (List.mem_append_left _ hx)] at h1
          exact h1
        rw [hN]
        have hlast : wr.cell? ⟨g, l'.length, none⟩ = some (.string ⟨s.toArray⟩) := by
          rw [hcells l'.length (by omega)]
          simp
        have hmid : ∀ i, (hi : i < l'.length) → wr.cell? ⟨g, i, none⟩ = some (.string ⟨l'[i].toArray⟩) := fun i hi => by
          rw [hcells i (by omega)]
          simp [List.getElem_append_left hi]
        have HMID := Lib.hid hmid
        have HLS := Lib.hid (show ∀ i, (hi : i < l'.length) → 1 ≤ l'[i].length ∧ l'[i].length ≤ 19 from fun i hi => hlens _ (List.mem_append_left _ (List.getElem_mem hi)))
        have HDEC := Lib.hid hdec
        have HG := Lib.hid hg
        have hB0 : Lib.IsBuilder 238 5 wr.heap.size wr.heap.size [] (wr.alloc (.cells #[.pointer none, .slice none 0 0] 238)) :=
          .inl ⟨Nat.le_refl _, .slice none 0 0, heap_alloc_new wr _, ⟨rfl, .inl ⟨rfl, rfl⟩⟩, by simp [Value.ownBlock]⟩
        have HWS := Lib.hid (writeString_any wr.heap.size wr.heap.size [] ⟨s.toArray⟩ _ hB0 (by simp [ByteArray.size]; omega) (by simp))
        have e1 : ((l'.length + 1 : Nat) : Int) - 1 = (l'.length : Int) := by omega
        clear hB0 HO HCH hcells hmid hlens hdec hne hN
        have hgl : g < wr.heap.size := hg
        have hlastA : ∀ o, (wr.alloc o).cell? ⟨g, l'.length, none⟩ = some (.string ⟨s.toArray⟩) := fun o => by
          rw [World.cell?_alloc_past (w := wr) o g l'.length hgl]; exact hlast
        go_wp2_with fail
        refine HWS.out.mono ?_
        rintro e w4 ⟨rfl, h4, hb4⟩
        have HB4 : Hid (Below wr.heap.size wr w4) := Lib.hid (((Below.refl _ wr).alloc (Nat.le_refl _) _).trans (hb4.mono (by simp)))
        have H4 := Lib.hid (show ∃ acc, Lib.IsBuilder 238 5 wr.heap.size wr.heap.size (Lib.byteCells acc) w4 ∧ acc ++ ptail (l'.take l'.length) = Lib.decDigits n from
          ⟨s, .inr (by have := h4; rwa [cells_nil] at this), by rw [List.take_length, HDEC.out]⟩)
        clear h4 hb4 HWS hlast hlastA
        go_wp2_with fail
        obtain ⟨W0, hW0⟩ : ∃ W0, W0 = wr := ⟨_, rfl⟩
        subst hW0
        go_loopg [7] l'.length (fun j v7 wr2 => v7 = .int .i64 ((j : Int) - 1) ∧ j ≤ l'.length ∧ Hid (∃ acc, Lib.IsBuilder 238 5 W0.heap.size W0.heap.size (Lib.byteCells acc) wr2 ∧ acc ++ ptail (l'.take j) = Lib.decDigits n) ∧ Hid (Below W0.heap.size W0 wr2))
        case atStart => exact ⟨rfl, Nat.le_refl _, H4, HB4⟩
        case round =>
          obtain ⟨rfl, hj, HA, HB5⟩ := hrel
          clear H4 HB4
          obtain ⟨acc, hbuild, hacc⟩ := HA.out
          have HBU := Lib.hid hbuild
          have HAC := Lib.hid hacc
          have HS := Lib.hid HB5.out.size
          have hal : acc.length ≤ 1099511627776 := by
            have := HL.out.1
            rw [← hacc, List.length_append] at this
            omega
          clear hbuild hacc HA
          by_cases hj0 : gk = 0
          · have g1 : ((gk : Nat) : Int) - 1 = -1 := by omega
            have hfin := HAC.out
            rw [hj0] at hfin
            simp [ptail] at hfin
            have HF := Lib.hid hfin
            clear hfin
            rw [g1]
            clear g1 hj0 hj hal e1 htl hgl
            go_wp2_with fail
            refine (Tryz.Builder_String_any W0.heap.size W0.heap.size acc _ HBU.out HS.out).mono ?_
            rintro e w5 ⟨rfl, hb5⟩
            have HB6 := Lib.hid hb5
            clear hb5
            go_wp2
            go_ret
            exact ⟨by rw [HF.out]; rfl, HB.out.trans ((HB5.out.trans HB6.out).mono HB.out.size)⟩
          · obtain ⟨i, hi⟩ : ∃ i, gk = i + 1 := ⟨gk - 1, by omega⟩
            have hil : i < l'.length := by omega
            have g1 : ((gk : Nat) : Int) - 1 = (i : Int) := by omega
            obtain ⟨si, hsi⟩ : ∃ x, x = l'[i] := ⟨_, rfl⟩
            have hc0 := HMID.out i hil
            have hln := HLS.out i hil
            rw [← hsi] at hc0 hln
            have hc1 : wr.cell? ⟨g, i, none⟩ = some (.string ⟨si.toArray⟩) := (HB5.out.cell (by exact HG.out)).trans hc0
            have htk : ptail (l'.take (i + 1)) = padS si ++ ptail (l'.take i) := by rw [take_succ' l' i hil, ptail_snoc, hsi]
            have HTK := Lib.hid htk
            obtain ⟨c, hc⟩ : ∃ c : Nat, c = 19 - si.length := ⟨_, rfl⟩
            have HCI := Lib.hid (show (19 : Int) - (si.length : Int) = (c : Int) by rw [hc, Int.ofNat_sub hln.2]; rfl)
            have HCL := Lib.hid (show c ≤ 19 ∧ c + si.length = 19 by rw [hc]; exact ⟨Nat.sub_le _ _, Nat.sub_add_cancel hln.2⟩)
            have HPAD := Lib.hid (show Lib.byteCells acc ++ Lib.strCells ⟨(Lib.repeatL [48] c).toArray⟩ ++ Lib.strCells ⟨si.toArray⟩ = Lib.byteCells (acc ++ padS si) by
              rw [cells_cat, cells_cat, repeat_zero, hc, List.append_assoc]; rfl)
            have HAL := Lib.hid hal
            have hsl : si.length ≤ 19 := hln.2
            have HC1 := Lib.hid hc1
            have HNX := Lib.hid (show (acc ++ padS si) ++ ptail (l'.take i) = Lib.decDigits n by
              have := HAC.out
              rw [hi, htk] at this
              rw [List.append_assoc]; exact this)
            have HGK := Lib.hid (show i < gk ∧ i ≤ l'.length by omega)
            have HIB := Lib.hid (show i ≤ 1099511627776 by omega)
            clear htk hi hsi hln hc hc0 hj0 hj hal HAC HTK
            rw [g1]
            clear g1 e1 htl
            go_wp2_with fail
            rw [HCI.out]
            refine (Tryz.strings_Repeat ⟨#[48]⟩ c wr (by have := HCL.out.1; omega) (by have := HCL.out.1; show 1 * c ≤ _; omega)).mono ?_
            rintro e w5 ⟨rfl, hb5⟩
            have HB7 := Lib.hid (HB5.out.trans (hb5.mono HS.out))
            have HBU5 := Lib.hid (isb_below HBU.out hb5)
            have hcell : w5.cell? ⟨g, i, none⟩ = some (.string ⟨si.toArray⟩) := (hb5.cell (by exact Nat.lt_of_lt_of_le HG.out HS.out)).trans HC1.out
            clear hb5 HBU
            go_wp2_with fail
            refine (writeString_any W0.heap.size W0.heap.size (Lib.byteCells acc) ⟨(Lib.repeatL [48] c).toArray⟩ w5 HBU5.out (by have := HCL.out.1; have := HAL.out; rw [repeat_zero]; simp [ByteArray.size, Lib.byteCells]; omega) HB7.out.size).mono ?_
            rintro e w6 ⟨rfl, h6, hb6⟩
            have HB8 := Lib.hid (HB7.out.trans hb6)
            have HBU6 := Lib.hid (show Lib.IsBuilder 238 5 W0.heap.size W0.heap.size (Lib.byteCells acc ++ Lib.strCells ⟨(Lib.repeatL [48] c).toArray⟩) w6 from .inr h6)
            have hcell2 : w6.cell? ⟨g, i, none⟩ = some (.string ⟨si.toArray⟩) := (hb6.cell (by exact HG.out)).trans hcell
            clear h6 hb6 hcell HBU5 HB7
            go_wp2_with fail
            refine (writeString_any W0.heap.size W0.heap.size _ ⟨si.toArray⟩ w6 HBU6.out (by have := HCL.out; have := HAL.out; rw [repeat_zero]; simp [ByteArray.size, Lib.byteCells, Lib.strCells]; omega) HB8.out.size).mono ?_
            rintro e w7 ⟨rfl, h7, hb7⟩
            have HB9 := Lib.hid (HB8.out.trans hb7)
            have HA7 := Lib.hid (show ∃ acc, Lib.IsBuilder 238 5 W0.heap.size W0.heap.size (Lib.byteCells acc) w7 ∧ acc ++ ptail (l'.take i) = Lib.decDigits n from ⟨acc ++ padS si, .inr (by rw [← HPAD.out]; exact h7), HNX.out⟩)
            clear h7 hb7 hcell2 HBU6 HB8
            go_wp2_with fail
            go_roundg i
            case measure => exact HGK.out.1
            case rel => exact ⟨congrArg (Value.int .i64) (IntWalk.wrap64_in ((i : Int) - 1) (by have := HIB.out; omega)), HGK.out.2, HA7, HB9⟩
      · have hp : 0 < nl gk := nl_pos hx
        have hp2 : (0 : Int) < (nl gk : Int) := by omega
        have hnk : nl gk ≤ 1048576 := Nat.le_trans (nl_mono HXN.out) HL.out.2.2
        have HQ := Lib.hid (divideWord_new a' c' gk CH wr HX.out (by omega) (by decide) (by unfold B; decide))
        have hll : l.length ≤ 1099511627776 := by
          have h1 := HL.out.1
          rw [HCH.out.1 hx, List.length_append, ptail_len l HCH.out.2.2] at h1
          omega
        have hrC : gk % CH < CH := Nat.mod_lt _ (by decide)
        have hst := HCH.out.step hx
        have hlt : gk / CH < gk := Nat.div_lt_self (by omega) (by decide)
        obtain ⟨q, hq⟩ : ∃ q, q = gk / CH := ⟨_, rfl⟩
        obtain ⟨r, hr⟩ : ∃ r, r = gk % CH := ⟨_, rfl⟩
        rw [← hq, ← hr] at HQ hst
        rw [← hr] at hrC
        rw [← hq] at hlt
        have HST := Lib.hid hst
        have HLT := Lib.hid (show q < gk ∧ q ≤ n from ⟨hlt, Nat.le_trans (Nat.le_of_lt hlt) HXN.out⟩)
        have hr64 : r < 18446744073709551616 := by unfold CH at hrC; omega
        clear hst hlt hq hr hp hnk hrC HX HXN HCH
        go_wp2_with fail
        refine HQ.out.mono ?_
        rintro e w1 ⟨a1, c1, rfl, hd1, hb1, hn1⟩
        have HD1 := Lib.hid hd1
        have HB1 := Lib.hid (HB.out.trans (hb1.mono HB.out.size))
        have HN1 := Lib.hid hn1
        have HO1 := Lib.hid (own_below HO.out hb1)
        have HSZ := Lib.hid (show ∀ k, u3.ownBlock = some k → k < wr.heap.size from fun k hk => (HO.out.lt k hk).2)
        clear hd1 hb1 hn1 HQ HO
        go_wp2_with fail
        refine (FormatUint_any r hr64 _ (HT.out _ HB1.out)).mono ?_
        rintro e w2 ⟨rfl, hb2⟩
        have HB2 := Lib.hid (HB1.out.trans (hb2.mono HB1.out.size))
        have HD2 := Lib.hid (HD1.out.mono hb2)
        have HO2 := Lib.hid (own_below HO1.out hb2)
        have hbs : w.heap.size ≤ w2.heap.size := HB2.out.size
        have HSTR := Lib.hid (one_string w2 ⟨(Lib.decDigits r).toArray⟩)
        clear hb2 HO1 HD1 HB1
        go_wp2_with (at_builtin; refine wpList_append_own _ rfl _ _ 232 rfl w.heap.size 9 i0 (.string ByteArray.empty) 1 16 Tryz.underlying232 HI.out HZ0.out HZ1.out HZ2.out rfl (by decide) _ _ _ rfl (HO2.out.alloc _) ⟨w2.heap.size, 0, none⟩ 1 1 [.string ⟨(Lib.decDigits r).toArray⟩] rfl rfl HSTR.out ?c2 ?c3 ?c4 ?c5 ?_)
        case c2 => intro u hu; simp at hu; subst hu; rfl
        case c3 => unfold maxLen; omega
        case c4 => omega
        case c5 => simp; omega
        intro v' w3 hown hgrow _
        have hown2 : w3.ownsRow w.heap.size 9 1 v' (l ++ [Lib.decDigits r]).length (strs (l ++ [Lib.decDigits r])) := by
          rw [← strs_snoc, List.length_append]; exact hown
        have HO3 := Lib.hid hown2
        have HB3 : Hid (Below w.heap.size w w3) := Lib.hid ((HB2.out.alloc (by omega) _).grown hgrow (by simp; omega) (fun k hk => (HO2.out.lt k hk).1))
        have HD3 := Lib.hid (DigsAt.grown (HD2.out.mono ((Below.refl _ w2).alloc (Nat.le_refl _) _)) hgrow HSZ.out HN1.out)
        clear hown hown2 hgrow HO2 HD2 HB2 HSTR
        go_wp2_with fail
        go_roundg q
        case measure => exact HLT.out.1
        case rel => exact ⟨a1, c1, _, rfl, HD3, HLT.out.2, HST, HO3, HB3⟩
end Go.Proofs.YtlncagdekfjinaaGreatDoor
namespace Go.Proofs.YtlncagdekfjinaaGreatDoor
open Go.RowKit Go.Sort Dg Fr
def TL : Nat := 1048576
theorem dec_short {n : Nat} (h : nl n ≤ 40) : (Lib.decDigits n).length ≤ TL := by
  rw [Lib.decDigits_length]
  obtain ⟨e, he⟩ : ∃ e, e = 999 := ⟨_, rfl⟩
  obtain ⟨b, hb⟩ : ∃ b, b = 40 := ⟨_, rfl⟩
  rw [← hb] at h
  have h1 := lt_nl n
  have h2 : B ^ nl n ≤ B ^ b := Nat.pow_le_pow_right B_pos h
  have h3 : B ^ b ≤ 10 ^ (e + 1) := by
    have : B ≤ 10 ^ 20 := by unfold B; decide
    refine Nat.le_trans (Nat.pow_le_pow_left this b) ?_
    rw [← Nat.pow_mul]
    exact Nat.pow_le_pow_right (by decide) (by omega)
  have h4 := D10.nDigits_le e n (Nat.lt_of_lt_of_le h1 (Nat.le_trans h2 h3))
  clear h1 h2 h3
  unfold TL; omega
def textQ (q : Rat) : List UInt8 := (if neg q then [45] else []) ++ Lib.decDigits (top q) ++ (if q.den = 1 then [] else 47 :: Lib.decDigits q.den)
theorem bytes_add (a b : List UInt8) : (⟨a.toArray⟩ : ByteArray) ++ ⟨b.toArray⟩ = ⟨(a ++ b).toArray⟩ := by
  apply ByteArray.ext
  simp
theorem join_ni (a : List UInt8) : Ending.returned (.string (⟨#[45]⟩ ++ ⟨a.toArray⟩)) = .returned (.string ⟨(45 :: a).toArray⟩) := by
  rw [show (⟨#[45]⟩ : ByteArray) = ⟨[45].toArray⟩ from rfl, bytes_add]; rfl
theorem join_pd (a b : List UInt8) : Ending.returned (.string (⟨a.toArray⟩ ++ (⟨#[47]⟩ ++ ⟨b.toArray⟩))) = .returned (.string ⟨(a ++ 47 :: b).toArray⟩) := by
  rw [show (⟨#[47]⟩ : ByteArray) = ⟨[47].toArray⟩ from rfl, bytes_add, bytes_add]; rfl
theorem join_nd (a b : List UInt8) : Ending.returned (.string (⟨#[45]⟩ ++ ⟨a.toArray⟩ ++ (⟨#[47]⟩ ++ ⟨b.toArray⟩))) = .returned (.string ⟨(45 :: a ++ 47 :: b).toArray⟩) := by
  rw [show (⟨#[45]⟩ : ByteArray) = ⟨[45].toArray⟩ from rfl, show (⟨#[47]⟩ : ByteArray) = ⟨[47].toArray⟩ from rfl, bytes_add, bytes_add, bytes_add]; rfl
set_option maxHeartbeats 1000000 in
theorem textG_pi {w : World} (a : Option Addr) (c n : Nat) (hD : DigsAt w a (nl n) c n) (hn : nl n ≤ 40) (htab : Lib.TabIs Tryz.prog w "internal/strconv.uint64pow10" .u64 Lib.pow10Tab) :
    Calls Tryz.prog 57 #[.agg #[.bool false, .slice a (nl n) c, .slice none 0 0]] w (GivesS w (Lib.decDigits n)) := by
  have hnil := fun w (a : Option Addr) n c => run_neq_slice_nil (P := Tryz.prog) (w := w) 95 167 a n c Tryz.underlying95
  have HT := Lib.hid (fun W (hW : Below w.heap.size w W) => textL_any a c n W (hD.mono hW) (by omega) (Nat.le_trans (dec_short hn) (by unfold TL; omega)) (Lib.tabBelow_of_tabIs htab W hW))
  have HM0 := Lib.hid (Mem.new (Mem.start w) 97 [.bool false, .slice a (nl n) c, .slice none 0 0])
  have hl1 := dec_short hn
  unfold TL at hl1
  have b0 : ¬ 9223372036854775807 < 1 + (Lib.decDigits n).length := by omega
  clear hD htab
  go_enter Tryz.func57, Tryz.ntmps57
  go_wp2_with fail
  refine (HT.out _ HM0.out.d).mono ?_
  rintro e w1 ⟨rfl, hb1⟩
  have HM1 := Lib.hid (HM0.out.call hb1)
  obtain ⟨k0, k1, k2⟩ := S3 (HM1.out.box (i := 0) rfl)
  clear hb1
  go_wp2
  go_ret
  exact ⟨rfl, HM1.out.d⟩
set_option maxHeartbeats 1000000 in
theorem textG_pd {w : World} (a : Option Addr) (c n : Nat) (b : Addr) (k d : Nat) (hD : DigsAt w a (nl n) c n) (hn : nl n ≤ 40) (hB : DigsAt w (some b) (nl d) k d) (hd : nl d ≤ 40) (htab : Lib.TabIs Tryz.prog w "internal/strconv.uint64pow10" .u64 Lib.pow10Tab) :
    Calls Tryz.prog 57 #[.agg #[.bool false, .slice a (nl n) c, .slice (some b) (nl d) k]] w (GivesS w (Lib.decDigits n ++ 47 :: Lib.decDigits d)) := by
  have hnil := fun w (a : Option Addr) n c => run_neq_slice_nil (P := Tryz.prog) (w := w) 95 167 a n c Tryz.underlying95
  have HT := Lib.hid (fun W (hW : Below w.heap.size w W) => textL_any a c n W (hD.mono hW) (by omega) (Nat.le_trans (dec_short hn) (by unfold TL; omega)) (Lib.tabBelow_of_tabIs htab W hW))
  have HD := Lib.hid (fun W (hW : Below w.heap.size w W) => textL_any (some b) k d W (hB.mono hW) (by omega) (Nat.le_trans (dec_short hd) (by unfold TL; omega)) (Lib.tabBelow_of_tabIs htab W hW))
  have HM0 := Lib.hid (Mem.new (Mem.start w) 97 [.bool false, .slice a (nl n) c, .slice (some b) (nl d) k])
  have hl1 := dec_short hn
  unfold TL at hl1
  have b0 : ¬ 9223372036854775807 < 1 + (Lib.decDigits n).length := by omega
  have hl2 := dec_short hd
  unfold TL at hl2
  have b1 : ¬ 9223372036854775807 < 1 + (Lib.decDigits d).length := by omega
  have b2 : ¬ 9223372036854775807 < (Lib.decDigits n).length + (1 + (Lib.decDigits d).length) := by omega
  have b3 : ¬ 9223372036854775807 < 1 + (Lib.decDigits n).length + (1 + (Lib.decDigits d).length) := by omega
  clear hD hB htab
  go_enter Tryz.func57, Tryz.ntmps57
  go_wp2_with fail
  refine (HT.out _ HM0.out.d).mono ?_
  rintro e w1 ⟨rfl, hb1⟩
  have HM1 := Lib.hid (HM0.out.call hb1)
  obtain ⟨k0, k1, k2⟩ := S3 (HM1.out.box (i := 0) rfl)
  clear hb1
  go_wp2_with fail
  refine (HD.out _ HM1.out.d).mono ?_
  rintro e w2 ⟨rfl, hb2⟩
  have HM2 := Lib.hid (HM1.out.call hb2)
  obtain ⟨k0, k1, k2⟩ := S3 (HM2.out.box (i := 0) rfl)
  clear hb2
  go_wp2
  go_ret
  exact ⟨join_pd _ _, HM2.out.d⟩
set_option maxHeartbeats 1000000 in
theorem textG_ni {w : World} (a : Option Addr) (c n : Nat) (hD : DigsAt w a (nl n) c n) (hn : nl n ≤ 40) (htab : Lib.TabIs Tryz.prog w "internal/strconv.uint64pow10" .u64 Lib.pow10Tab) :
    Calls Tryz.prog 57 #[.agg #[.bool true, .slice a (nl n) c, .slice none 0 0]] w (GivesS w (45 :: Lib.decDigits n)) := by
  have hnil := fun w (a : Option Addr) n c => run_neq_slice_nil (P := Tryz.prog) (w := w) 95 167 a n c Tryz.underlying95
  have HT := Lib.hid (fun W (hW : Below w.heap.size w W) => textL_any a c n W (hD.mono hW) (by omega) (Nat.le_trans (dec_short hn) (by unfold TL; omega)) (Lib.tabBelow_of_tabIs htab W hW))
  have HM0 := Lib.hid (Mem.new (Mem.start w) 97 [.bool true, .slice a (nl n) c, .slice none 0 0])
  have hl1 := dec_short hn
  unfold TL at hl1
  have b0 : ¬ 9223372036854775807 < 1 + (Lib.decDigits n).length := by omega
  clear hD htab
  go_enter Tryz.func57, Tryz.ntmps57
  go_wp2_with fail
  refine (HT.out _ HM0.out.d).mono ?_
  rintro e w1 ⟨rfl, hb1⟩
  have HM1 := Lib.hid (HM0.out.call hb1)
  obtain ⟨k0, k1, k2⟩ := S3 (HM1.out.box (i := 0) rfl)
  clear hb1
  go_wp2
  go_ret
  exact ⟨join_ni _, HM1.out.d⟩
set_option maxHeartbeats 1000000 in
theorem textG_nd {w : World} (a : Option Addr) (c n : Nat) (b : Addr) (k d : Nat) (hD : DigsAt w a (nl n) c n) (hn : nl n ≤ 40) (hB : DigsAt w (some b) (nl d) k d) (hd : nl d ≤ 40) (htab : Lib.TabIs Tryz.prog w "internal/strconv.uint64pow10" .u64 Lib.pow10Tab) :
    Calls Tryz.prog 57 #[.agg #[.bool true, .slice a (nl n) c, .slice (some b) (nl d) k]] w (GivesS w (45 :: Lib.decDigits n ++ 47 :: Lib.decDigits d)) := by
  have hnil := fun w (a : Option Addr) n c => run_neq_slice_nil (P := Tryz.prog) (w := w) 95 167 a n c Tryz.underlying95
  have HT := Lib.hid (fun W (hW : Below w.heap.size w W) => textL_any a c n W (hD.mono hW) (by omega) (Nat.le_trans (dec_short hn) (by unfold TL; omega)) (Lib.tabBelow_of_tabIs htab W hW))
  have HD := Lib.hid (fun W (hW : Below w.heap.size w W) => textL_any (some b) k d W (hB.mono hW) (by omega) (Nat.le_trans (dec_short hd) (by unfold TL; omega)) (Lib.tabBelow_of_tabIs htab W hW))
  have HM0 := Lib.hid (Mem.new (Mem.start w) 97 [.bool true, .slice a (nl n) c, .slice (some b) (nl d) k])
  have hl1 := dec_short hn
  unfold TL at hl1
  have b0 : ¬ 9223372036854775807 < 1 + (Lib.decDigits n).length := by omega
  have hl2 := dec_short hd
  unfold TL at hl2
  have b1 : ¬ 9223372036854775807 < 1 + (Lib.decDigits d).length := by omega
  have b2 : ¬ 9223372036854775807 < (Lib.decDigits n).length + (1 + (Lib.decDigits d).length) := by omega
  have b3 : ¬ 9223372036854775807 < 1 + (Lib.decDigits n).length + (1 + (Lib.decDigits d).length) := by omega
  clear hD hB htab
  go_enter Tryz.func57, Tryz.ntmps57
  go_wp2_with fail
  refine (HT.out _ HM0.out.d).mono ?_
  rintro e w1 ⟨rfl, hb1⟩
  have HM1 := Lib.hid (HM0.out.call hb1)
  obtain ⟨k0, k1, k2⟩ := S3 (HM1.out.box (i := 0) rfl)
  clear hb1
  go_wp2_with fail
  refine (HD.out _ HM1.out.d).mono ?_
  rintro e w2 ⟨rfl, hb2⟩
  have HM2 := Lib.hid (HM1.out.call hb2)
  obtain ⟨k0, k1, k2⟩ := S3 (HM2.out.box (i := 0) rfl)
  clear hb2
  go_wp2
  go_ret
  exact ⟨join_nd _ _, HM2.out.d⟩
theorem Text_any {w : World} {v : Value} {q : Rat} (h : FracAt w v q) (hn : nl (top q) ≤ 40) (hd : nl q.den ≤ 40) (htab : Lib.TabIs Tryz.prog w "internal/strconv.uint64pow10" .u64 Lib.pow10Tab) : Calls Tryz.prog 57 #[v] w (GivesS w (textQ q)) := by
  unfold textQ
  obtain ⟨a, c, ab, nb, cb, rfl, hD, hB⟩ := h
  rcases hB with ⟨h1, e⟩ | ⟨h1, b, k, e, hB⟩
  · cases e
    rw [if_pos h1, List.append_nil]
    by_cases hs : neg q = true
    · rw [hs, if_pos rfl]
      exact textG_ni a c (top q) hD hn htab
    · rw [Bool.not_eq_true] at hs
      rw [hs]
      exact textG_pi a c (top q) hD hn htab
  · cases e
    rw [if_neg h1]
    by_cases hs : neg q = true
    · rw [hs, if_pos rfl]
      exact textG_nd a c (top q) b _ q.den hD hn hB hd htab
    · rw [Bool.not_eq_true] at hs
      rw [hs]
      exact textG_pd a c (top q) b _ q.den hD hn hB hd htab
end Go.Proofs.YtlncagdekfjinaaGreatDoor
