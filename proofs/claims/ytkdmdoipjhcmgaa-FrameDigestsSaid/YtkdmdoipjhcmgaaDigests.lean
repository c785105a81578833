/- FrameDigests holds: for every start and every two lists of bytes the law returns true, and its arguments read as they read. No condition. -/
import Derived.Test.YtkdmdoipjhcmgaaLaw
import Derived.Test.YtkdmdoipjhcmgaaCat
namespace Go.Proofs.Ytkdmdoipjhcmgaa.digests
open Go.ChangeShapes Go.WideShapes Go.ChangeAt Go.RowKit

/-- A row that lies in memory, as a slice. -/
theorem own_slice {w : World} {base n : Nat} {v : Value} {l : List Nat} (h : w.ownsRow base 5 1 v n (l.map byt)) (hl : ∀ x ∈ l, x < 256) : ∃ a cap, v = .slice a n cap ∧ BytesAt w a l := by
  rcases h.2 with ⟨rfl, h0⟩ | ⟨g, cap, cur, rfl, _⟩
  · subst h0
    have : l = [] := by
      have := h.1
      simp at this
      exact this
    subst this
    exact ⟨none, 0, rfl, BytesAt.nil w⟩
  · exact ⟨_, _, rfl, BytesAt.of_own h hl⟩

theorem refDigest_n (s : Nat) (hs : s < 18446744073709551616) (a : Option Addr) (l : List Nat) (cap n : Nat) (hn : l.length = n) (w : World) (hb : BytesAt w a l) (hl : l.length ≤ 1152921504606846976) :
    Calls Try.prog 17 #[.int .u64 (s : Int), .slice a n cap] w fun e w' => e = .returned (.int .u64 (dg s l : Int)) ∧ w = w' := by
  subst hn
  exact refDigest_any s hs a l cap w hb hl

set_option maxHeartbeats 2000000 in
set_option maxRecDepth 100000 in
theorem walk_main (s : Nat) (hs : s < 18446744073709551616) (a1 a2 : Option Addr) (c1 c2 n1 n2 : Nat) (l m : List Nat) (h1 : l.length = n1) (h2 : m.length = n2) (hn1 : n1 ≤ 1000) (hn2 : n2 ≤ 1000) (w : World)
    (hg1 : Given8 w a1 c1 l) (hg2 : Given8 w a2 c2 m) :
    Calls Try.prog 4 #[.int .u64 (s : Int), .slice a1 n1 c1, .slice a2 n2 c2] w fun e w' => e = .returned (.bool true) ∧ Below w.heap.size w w' := by
  have H1 := Lib.hid h1
  have H2 := Lib.hid h2
  have HS := Lib.hid hs
  clear h1 h2 hs
  go_enter Try.func4, Try.ntmps4
  go_wp2_with fail
  have hbx := Box.new w 46 #[.slice a1 n1 c1, .slice a2 n2 c2]
  have hb0 : Below w.heap.size w (w.alloc (.cells #[.slice a1 n1 c1, .slice a2 n2 c2] 46)) := (Below.refl _ _).alloc (Nat.le_refl _) _
  refine (concat_any w.heap.size a1 a2 c1 c2 l m n1 n2 H1.out H2.out hn1 hn2 _ (by simp) (hbx.at_ rfl) (hbx.at_ rfl) (hg1.mono hb0) (hg2.mono hb0)).mono ?_
  rintro e w1 ⟨v, rfl, ho, hb1⟩
  have hlt : ∀ x ∈ l ++ m, x < 256 := fun x hx => by
    rcases List.mem_append.1 hx with hx | hx
    · exact hg1.1.1 x hx
    · exact hg2.1.1 x hx
  obtain ⟨a, cap, rfl, hB⟩ := own_slice ho hlt
  have hb2 : Below w.heap.size w w1 := hb0.trans (hb1.mono hb0.size)
  have hL : (l ++ m).length = n1 + n2 := by rw [List.length_append, H1.out, H2.out]
  clear hbx hb0 hb1 ho hlt
  have HL := Lib.hid hL
  clear hL
  go_wp2_with fail
  refine (digest_n s HS.out a (l ++ m) cap (n1 + n2) HL.out _ hB (by rw [HL.out]; omega)).mono ?_
  rintro e w' ⟨rfl, rfl⟩
  have hq : dg (dg s l) m = dg s (l ++ m) := (dg_append s l m).symm
  generalize hqq : dg s (l ++ m) = q at *
  have HQ := Lib.hid hq
  have HQQ := Lib.hid hqq
  clear hq hqq
  go_wp2_with fail
  refine (refDigest_n s HS.out a (l ++ m) cap (n1 + n2) HL.out _ hB (by rw [HL.out]; omega)).mono ?_
  rintro e w' ⟨rfl, rfl⟩
  rw [HQQ.out]
  go_wp2_with fail
  refine (digest_n s HS.out a1 l c1 n1 H1.out _ (hg1.mono hb2).1 (by rw [H1.out]; omega)).mono ?_
  rintro e w' ⟨rfl, rfl⟩
  have HD := Lib.hid (dg_lt s HS.out l)
  go_wp2_with fail
  refine (digest_n (dg s l) HD.out a2 m c2 n2 H2.out _ (hg2.mono hb2).1 (by rw [H2.out]; omega)).mono ?_
  rintro e w' ⟨rfl, rfl⟩
  rw [HQ.out]
  go_wp2_with fail
  refine (awake_any _).mono ?_
  rintro e w2 ⟨rfl, hb3⟩
  go_wp2_with fail
  go_ret
  exact ⟨rfl, hb2.trans (hb3.mono hb2.size)⟩

/-- Where one list is too long. -/
theorem walk_long (s : Nat) (a1 a2 : Option Addr) (c1 c2 n1 n2 : Nat) (w : World) (hm1 : n1 ≤ 9223372036854775807) (hm2 : n2 ≤ 9223372036854775807) (h : ¬ (n1 ≤ 1000 ∧ n2 ≤ 1000)) :
    Calls Try.prog 4 #[.int .u64 (s : Int), .slice a1 n1 c1, .slice a2 n2 c2] w fun e w' => e = .returned (.bool true) ∧ Below w.heap.size w w' := by
  by_cases h1 : n1 ≤ 1000
  · have h2 : 1000 < n2 := by omega
    have h3 : ¬ 1000 < n1 := by omega
    clear h
    go_enter Try.func4, Try.ntmps4
    go_wp2_with fail
    refine (awake_any _).mono ?_
    rintro e w2 ⟨rfl, hb3⟩
    go_wp2_with fail
    go_ret
    exact ⟨rfl, hb3⟩
  · have h2 : 1000 < n1 := by omega
    clear h h1
    go_enter Try.func4, Try.ntmps4
    go_wp2_with fail
    refine (awake_any _).mono ?_
    rintro e w2 ⟨rfl, hb3⟩
    go_wp2_with fail
    go_ret
    exact ⟨rfl, hb3⟩

theorem cells1 : Try.prog.cellsOf 5 = 1 := by kernel_rfl
set_option maxRecDepth 100000 in
theorem wf8 {n : Int} (h : (Lit.int .u8 n).wf = true) : 0 ≤ n ∧ n < 256 := by
  simp only [Lit.wf, Bool.and_eq_true, decide_eq_true_eq] at h
  have h1 : IntKind.u8.min = 0 := rfl
  have h2 : IntKind.u8.max = 255 := rfl
  omega

theorem wf64 {n : Int} (h : (Lit.int .u64 n).wf = true) : 0 ≤ n ∧ n < 18446744073709551616 := by
  simp only [Lit.wf, Bool.and_eq_true, decide_eq_true_eq] at h
  have h1 : IntKind.u64.min = 0 := rfl
  have h2 : IntKind.u64.max = 18446744073709551615 := rfl
  omega
theorem params_ok : ∀ t ∈ Try.f4.params.toList, Try.prog.readableRec t = true ∧ t < Try.prog.types.size := by
  rw [Try.params4]
  intro t ht
  simp at ht
  rcases ht with rfl | rfl <;> exact ⟨by kernel_rfl, of_decide_eq_true (by kernel_rfl)⟩
set_option maxRecDepth 100000 in
/-- An argument that is a list of bytes. -/
theorem open_bytes {H : Type} {enc : TypeId × Value → H} {W : World} {r : Reach} {b0 : Nat} {v : Value} {d : DataW H} {p : List MemPlace} (hval : Value.okWide Try.prog W r b0 46 v)
    (hd : DataW.Trod enc Try.prog W 0 (fun _ => true) true 46 v d p) : ∃ a len cap l, v = .slice a len cap ∧ l.length = len ∧ len ≤ maxLen ∧ Given8 W a cap l := by
  obtain ⟨a0, len, cap, rfl⟩ := okWide_slice Try.underlying46 hval
  obtain ⟨fuel, hf⟩ := hd
  rcases open_ints Try.underlying46 Try.underlying5 cells1 hf with ⟨hcs, _⟩ | ⟨a, len', cap', zs, hcs, _, hl, hm, hz, _, hcell, hwz⟩
  · simp [Value.cells] at hcs
    obtain ⟨rfl, rfl, rfl⟩ := hcs
    exact ⟨none, 0, 0, [], rfl, rfl, Nat.zero_le _, BytesAt.nil W, fun _ => ⟨rfl, rfl⟩⟩
  · simp [Value.cells] at hcs
    obtain ⟨rfl, rfl, rfl⟩ := hcs
    simp only [if_true] at hz
    have hlen : ((zs.take len).map Int.toNat).length = len := by simp; omega
    refine ⟨some a, len, cap, (zs.take len).map Int.toNat, rfl, hlen, Nat.le_trans hl hm, ⟨?_, fun h0 => ⟨a, rfl, ?_, fun i hi => ?_⟩⟩, fun h => by cases h⟩
    · intro n hn
      obtain ⟨z, hz', rfl⟩ := List.mem_map.1 hn
      have := wf8 (hwz z (List.mem_of_mem_take hz'))
      omega
    · rw [hlen] at h0
      exact (add_block a 0) ▸ block_lt_of_cell (hcell 0 (by omega))
    · rw [hlen] at hi
      rw [hcell i (by omega)]
      have hw := wf8 (hwz (zs.getD i 0) (by rw [List.getD, List.getElem?_eq_getElem (by omega)]; simp))
      have e : ((zs.take len).map Int.toNat).getD i 0 = (zs.getD i 0).toNat := by
        have hi2 : i < zs.length := by omega
        simp [List.getD, hi, hi2]
      rw [e]
      congr 2
      omega

set_option maxRecDepth 100000 in
theorem contract (H : Type) (enc : TypeId × Value → H) (W : World) (base : Nat) (args : Array Value) (ds gs : List (DataW H)) (before : List MemPlace)
    (hval : ∀ (j : Nat) t v, Try.f4.params[j]? = some t → args[j]? = some v → Value.okWide Try.prog W .any base t v)
    (hW : DataW.Whole enc Try.prog Try.f4.params.toList Rows.frameDigestsSpec.vars false W args.toList ds gs before) :
    Calls Try.prog 4 args W fun e W' => ∃ v, e = .returned v ∧ Rows.frameDigestsSpec.post enc Try.prog Try.f4 false true false false W args v W' := by
  have hW' := hW
  obtain ⟨p, q, hA0, hV, rfl, hfz, hnd⟩ := hW
  have hA : DataW.TrodAll enc Try.prog W 0 (fun _ => true) true Try.f4.params.toList args.toList ds p := hA0
  rw [Try.params4] at hA hval
  obtain ⟨v0, vs0, d0, ds0, p0, q0, hargs, rfl, rfl, h0, r0⟩ := trodAll_cons hA
  obtain ⟨v1, vs1, d1, ds1, p1, q1, rfl, rfl, rfl, h1, r1⟩ := trodAll_cons r0
  obtain ⟨v2, vs2, d2, ds2, p2, q2, rfl, rfl, rfl, h2, r2⟩ := trodAll_cons r1
  obtain ⟨rfl, rfl, rfl⟩ := trodAll_nil r2
  obtain rfl : args = #[v0, v1, v2] := by cases args; simp_all
  obtain ⟨rfl, rfl⟩ := trodVars_none hV
  obtain ⟨n, rfl, rfl, rfl, hn⟩ := open_int Try.underlying45 (hval 0 45 v0 rfl rfl) h0
  obtain ⟨a1, n1, c1, l, rfl, hl1, hm1, hg1⟩ := open_bytes (hval 1 46 v1 rfl rfl) h1
  obtain ⟨a2, n2, c2, m, rfl, hl2, hm2, hg2⟩ := open_bytes (hval 2 46 v2 rfl rfl) h2
  clear hA0 hA
  simp only [List.append_nil] at hW'
  have hs : 0 ≤ n ∧ n < 18446744073709551616 := wf64 hn
  obtain ⟨s, rfl⟩ := Int.eq_ofNat_of_zero_le hs.1
  have walk : Calls Try.prog 4 #[.int .u64 (s : Int), .slice a1 n1 c1, .slice a2 n2 c2] W fun e w' => e = .returned (.bool true) ∧ Below W.heap.size W w' := by
    by_cases h : n1 ≤ 1000 ∧ n2 ≤ 1000
    · exact walk_main s (by omega) a1 a2 c1 c2 n1 n2 l m hl1 hl2 h.1 h.2 W hg1 hg2
    · exact walk_long s a1 a2 c1 c2 n1 n2 W hm1 hm2 h
  refine walk.mono fun e W' ⟨he, hb⟩ => ⟨_, he, ?_⟩
  exact post_true laidOut params_ok rfl (by kernel_rfl) Try.underlying4 hW' rfl hb

set_option maxRecDepth 100000 in
theorem lifted (os : Os) (started : os.Started) (H : Type) (enc : TypeId × Value → H) :
    ReturnsInHanded {} Try.checked os 4 .any (Rows.frameDigestsSpec.pre6 enc Try.prog Try.f4 Rows.frameDigestsRow.domain false) (Rows.frameDigestsSpec.post enc Try.prog Try.f4 false true false false) := by
  refine returnsInHanded_of_change (C := Try.checked) own started (by kernel_rfl) Try.func4
    (ChangeSpec.witness6 (enc := enc) (C := Try.checked) false ⟨#[], #[.int .u64 0, .slice none 0 0, .slice none 0 0], []⟩ 8 (by kernel_rfl) (by kernel_rfl) (by kernel_rfl) (by kernel_rfl)) ?_
  intro W base args ds gs before hval hW _ _
  exact contract H enc W base args ds gs before hval hW

theorem proved : Rows.FrameDigestsSaid :=
  OpenClaim.holds_of_wide 4 Try.f4 rfl rfl rfl rfl rfl rfl rfl ⟨rfl, rfl, rfl, rfl, rfl⟩ rfl rfl rfl rfl rfl (by kernel_rfl) Try.func4 (by kernel_rfl)
    (of_decide_eq_true (by kernel_rfl)) (by unfold Func.isWrapper; first | (rw [if_pos (by decide +kernel)]; kernel_rfl) | (rw [if_neg (by decide +kernel)]; exact ⟨rfl, rfl⟩))
    (fun os started H enc _ => lifted os started H enc)
#print axioms proved
end Go.Proofs.Ytkdmdoipjhcmgaa.digests
