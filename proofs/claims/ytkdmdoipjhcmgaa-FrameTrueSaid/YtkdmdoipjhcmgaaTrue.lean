/- FrameTrue holds: for every start, rate, tests and time the law returns true, and its arguments read as they read. No condition. -/
import Derived.Test.YtkdmdoipjhcmgaaTimes
import Derived.Test.YtkdmdoipjhcmgaaTrueM
namespace Go.Proofs.Ytkdmdoipjhcmgaa.truth
open Go.ChangeShapes Go.WideShapes Go.ChangeAt Go.RowKit

/-- The true time, when the clock shows c. -/
theorem truth_any (p q : Addr) (s dr c : Int) (w : World) (hp : w.cell? p = some (.int .u16 s)) (hq : w.cell? q = some (.int .i64 dr)) (hs : 0 ≤ s) (hs' : s ≤ 65535) (hd : 0 ≤ dr) (hd' : dr ≤ 99) (hc : 0 ≤ c) (hc' : c ≤ 99999000) :
    Calls Try.prog 36 #[.int .i64 c, .pointer (some p), .pointer (some q)] w fun e w' => e = .returned (.int .i64 (s + c + c * dr / 1000)) ∧ w = w' := by
  have m0 : 0 ≤ c * dr := Int.mul_nonneg hc hd
  have m1 : c * dr ≤ 99999000 * 99 := Int.mul_le_mul hc' hd' hd (by omega)
  go_enter Try.func36, Try.ntmps36
  go_wp2
  go_ret
  exact ⟨rfl, rfl⟩

/-- Three numbers of the tests. -/
structure Ts where
  a : Int
  b : Int
  c : Int
def ckT (s dr : Int) (t : Ts) : Ck := mk s dr t.a t.b t.c
structure TsAt (w : World) (p : Addr) (t : Ts) : Prop where
  a : w.cell? p = some (.int .u16 t.a)
  b : w.cell? ⟨p.block, p.off + 1, none⟩ = some (.int .u16 t.b)
  c : w.cell? ⟨p.block, p.off + 2, none⟩ = some (.int .u16 t.c)
def TsOk (t : Ts) : Prop := (0 ≤ t.a ∧ t.a ≤ 65535) ∧ (0 ≤ t.b ∧ t.b ≤ 65535) ∧ 0 ≤ t.c ∧ t.c ≤ 65535
def TssAt (w : World) (B : Nat) (a : Option Addr) (l : List Ts) : Prop := 0 < l.length → ∃ ad, a = some ad ∧ ad.block < B ∧ ∀ i (h : i < l.length), TsAt w (ad.add (i * 3)) l[i]
theorem TsAt.mono {w w' : World} {B : Nat} {p : Addr} {t : Ts} (h : TsAt w p t) (hb : Below B w w') (hp : p.block < B) : TsAt w' p t :=
  ⟨(hb.cell hp).trans h.a, (hb.cell (p := ⟨p.block, p.off + 1, none⟩) hp).trans h.b, (hb.cell (p := ⟨p.block, p.off + 2, none⟩) hp).trans h.c⟩
theorem TssAt.mono {w w' : World} {B : Nat} {a : Option Addr} {l : List Ts} (h : TssAt w B a l) (hb : Below B w w') : TssAt w' B a l := fun hl => by
  obtain ⟨ad, e, hlt, hc⟩ := h hl
  exact ⟨ad, e, hlt, fun i hi => (hc i hi).mono hb (by rw [add_block]; exact hlt)⟩

theorem flat_next (s dr : Int) (l : List Ts) (k : Nat) (h : k < l.length) : times.flat ((l.take (k + 1)).map (ckT s dr)) = times.flat ((l.take k).map (ckT s dr)) ++
    [.int .i64 0, .int .i64 (1000 * l[k].a), .int .i64 (max (s + 1000 * l[k].a + l[k].a * dr - l[k].b) 0), .int .i64 (s + 1000 * l[k].a + l[k].a * dr + l[k].c)] := by
  have h1 : k < (l.map (ckT s dr)).length := by simpa using h
  have := times.flat_snoc (l.map (ckT s dr)) k h1
  rw [List.map_take, List.map_take, this]
  simp [ckT, mk]
theorem less {w : World} {B : Nat} {a : Option Addr} {l : List Ck} {k : Nat} (h : CksAt w B a l) : CksAt w B a (l.take k) := fun hl => by
  have h0 : 0 < l.length := by
    rw [List.length_take] at hl
    omega
  obtain ⟨ad, e, hlt, hc⟩ := h h0
  refine ⟨ad, e, hlt, fun i hi => ?_⟩
  rw [List.getElem_take]
  exact hc i _
theorem now {w : World} {a : Option Addr} {l : List Ck} (h : CksAt w w.heap.size a l) : CksAt w.drew w.drew.heap.size a l := h.mono (Below.refl _ _).drew
theorem later {w : World} {a : Option Addr} {l : List Ck} {o : Obj} (h : CksAt w w.heap.size a l) : CksAt (w.alloc o).drew (w.alloc o).drew.heap.size a l := by
  have hb : Below w.heap.size w (w.alloc o).drew := ((Below.refl _ _).alloc (Nat.le_refl _) o).drew
  exact (h.mono hb).more hb.size
/-- What stays behind the first three calls. -/
structure Rest (w : World) (L : List Ck) (g nx ny : Nat) (s dr x1 x2 y1 y2 : Int) (W : World) : Prop where
  hX : Two W nx x1 x2
  hY : Two W ny y1 y2
  hS : Box W w.heap.size 92 #[.int .u16 s]
  hD : Box W (w.heap.size + 1) 3 #[.int .i64 dr]
  hC : CksAt W W.heap.size (some ⟨g, 0, none⟩) L
  hb : Below w.heap.size w W
theorem Rest.below {w : World} {L : List Ck} {g nx ny : Nat} {s dr x1 x2 y1 y2 : Int} {W W' : World} (h : Rest w L g nx ny s dr x1 x2 y1 y2 W) (hb : Below W.heap.size W W') : Rest w L g nx ny s dr x1 x2 y1 y2 W' :=
  ⟨h.hX.below hb h.hX.lt, h.hY.below hb h.hY.lt, h.hS.below hb h.hS.lt, h.hD.below hb h.hD.lt, (h.hC.mono hb).more hb.size, h.hb.trans (hb.mono h.hb.size)⟩
theorem half_drift {dr : Int} : 1000 * dr / 2 = 500 * dr := by omega
theorem news5 (w : World) (a b c d : Int) (n : Nat) (hn : w.heap.size = n) : ∀ j u, ([.int .i64 a, .int .i64 b, .int .i64 c, .int .i64 d] : List Value)[j]? = some u →
    (w.alloc (.cells #[.int .i64 a, .int .i64 b, .int .i64 c, .int .i64 d] 55)).cell? ((⟨n, 0, none⟩ : Addr).add j) = some u := by
  subst hn
  intro j u hu
  rw [Addr.add_mid]
  exact (Box.new w 55 #[.int .i64 a, .int .i64 b, .int .i64 c, .int .i64 d]).at_ (by rw [Nat.zero_add]; simpa using hu)
theorem one4 (a b c d : Int) : ∀ u ∈ ([.int .i64 a, .int .i64 b, .int .i64 c, .int .i64 d] : List Value), u.oneCell' = true := by
  intro u hu
  simp only [List.mem_cons, List.not_mem_nil, or_false] at hu
  rcases hu with rfl | rfl | rfl | rfl <;> rfl
theorem cks_of {w : World} {base n g cap : Nat} {l : List Ck} (h : w.ownsRow base 55 4 (.slice (some ⟨g, 0, none⟩) n cap) n (times.flat l)) (hn : l.length = n) : CksAt w w.heap.size (some ⟨g, 0, none⟩) l := fun h0 => by
  obtain ⟨g', cap', e, _, hlt⟩ := h.form (by omega)
  cases e
  refine ⟨_, rfl, hlt, fun i hi => ?_⟩
  obtain ⟨f0, f1, f2, f3⟩ := times.flat_at l i hi
  have hc := h.cells (g := g) rfl
  have c0 := hc _ _ f0
  have c1 := hc _ _ f1
  have c2 := hc _ _ f2
  have c3 := hc _ _ f3
  rw [Addr.add_mid] at c0 c1 c2 c3 ⊢
  exact ⟨c0, by simpa [Nat.add_assoc] using c1, by simpa [Nat.add_assoc] using c2, by simpa [Nat.add_assoc] using c3⟩
theorem own_cap {w : World} {base n g cap : Nat} {xs : List Value} (h : w.ownsRow base 55 4 (.slice (some ⟨g, 0, none⟩) n cap) n xs) : n ≤ cap := by
  rcases h.2 with ⟨e, _⟩ | ⟨g', cap', cur, e, _, _, hle, _⟩
  · cases e
  · cases e
    exact hle
theorem info_ck' : (Try.prog.info? 55).map (fun i => (i.zero, i.size, i.bytes)) = some (some (.agg #[.int .i64 0, .int .i64 0, .int .i64 0, .int .i64 0]), 4, 32) := by kernel_rfl

set_option maxHeartbeats 8000000 in
set_option maxRecDepth 1000000 in
theorem walk_main (a : Option Addr) (cap n : Nat) (l : List Ts) (hn : l.length = n) (s rate at_ : Int) (hs : 0 ≤ s) (hs' : s ≤ 65535) (hr : 0 ≤ rate) (hr' : rate ≤ 65535) (ha : 0 ≤ at_) (ha' : at_ ≤ 4294967295)
    (w : World) (hl : TssAt w w.heap.size a l) (hok : ∀ t ∈ l, TsOk t) (h1 : 1 ≤ n) (h10 : n ≤ 10) :
    Calls Try.prog 7 #[.int .u16 s, .int .u16 rate, .slice a n cap, .int .u32 at_] w fun e w' => e = .returned (.bool true) ∧ Below w.heap.size w w' := by
  obtain ⟨i0, hi, hz0, hz1, hz2⟩ := info_parts info_ck'
  have hmf : ∀ (fn : Fn) (first cap : Array Value) (w : World), (Instr.makeFunc fn first cap).run Try.prog w = .ok (.func fn first cap) w := fun _ _ _ _ => rfl
  have HN := Lib.hid hn
  have hd : 0 ≤ rate % 100 := by omega
  have hd' : rate % 100 ≤ 99 := by omega
  clear hn
  go_enter Try.func7, Try.ntmps7
  go_wp2_with fail
  generalize hdr : rate % 100 = dr at *
  clear hdr
  have hbW : Below w.heap.size w ((w.alloc (.cells #[.int .u16 s] 92)).alloc (.cells #[.int .i64 dr] 3)) := ((Below.refl _ _).alloc (Nat.le_refl _) _).alloc (by simp) _
  have hBs : Box ((w.alloc (.cells #[.int .u16 s] 92)).alloc (.cells #[.int .i64 dr] 3)) w.heap.size 92 #[.int .u16 s] := heap_alloc2_old ..
  have hBd : Box ((w.alloc (.cells #[.int .u16 s] 92)).alloc (.cells #[.int .i64 dr] 3)) (w.heap.size + 1) 3 #[.int .i64 dr] := heap_alloc2_new ..
  have hsW : ((w.alloc (.cells #[.int .u16 s] 92)).alloc (.cells #[.int .i64 dr] 3)).heap.size = w.heap.size + 2 := by simp
  generalize hW0 : (w.alloc (.cells #[.int .u16 s] 92)).alloc (.cells #[.int .i64 dr] 3) = W0 at *
  clear hW0
  have HsW := Lib.hid hsW
  clear hsW
  go_loopw [11, 42] (fun v i wr => ∃ k : Nat, k ≤ n ∧ i = .int .i64 k ∧ wr.ownsRow W0.heap.size 55 4 v k (times.flat ((l.take k).map (ckT s dr))) ∧ Below W0.heap.size W0 wr) (fun _ i _ => n - (intOf i).toNat)
  case atStart => exact ⟨0, Nat.zero_le _, rfl, World.ownsRow_nil .., Below.refl _ _⟩
  case round =>
    obtain ⟨k, hk, rfl, hown, hb⟩ := hrel
    have hbw : Below w.heap.size w wr := hbW.trans (hb.mono hbW.size)
    by_cases hlt : k < n
    · have hkl : k < l.length := by rw [HN.out]; exact hlt
      obtain ⟨ad, rfl, hlt2, hcc⟩ := hl.mono hbw (by omega)
      obtain ⟨c0, c1, c2⟩ := hcc k hkl
      have ok := hok l[k] (List.getElem_mem hkl)
      have HS := Lib.hid (flat_next s dr l k hkl)
      clear hcc
      generalize l[k] = t at *
      obtain ⟨ta, tb, tc⟩ := t
      obtain ⟨⟨oa0, oa1⟩, ⟨ob0, ob1⟩, oc0, oc1⟩ := ok
      simp only at c0 c1 c2 oa0 oa1 ob0 ob1 oc0 oc1
      have m0 : 0 ≤ ta * dr := Int.mul_nonneg oa0 hd
      have m1 : ta * dr ≤ 65535 * 99 := Int.mul_le_mul oa1 hd' hd (by omega)
      go_wp2_with fail
      have hBs2 := ((hBs.below hb (by have := HsW.out; omega)).alloc_ (.cells #[.int .u16 ta, .int .u16 tb, .int .u16 tc] 95)).at_ (i := 0) rfl
      have hBd2 := ((hBd.below hb (by have := HsW.out; omega)).alloc_ (.cells #[.int .u16 ta, .int .u16 tb, .int .u16 tc] 95)).at_ (i := 0) rfl
      refine (truth_any _ _ s dr (1000 * ta) _ hBs2 hBd2 hs hs' hd hd' (by omega) (by omega)).mono ?_
      rintro e w' ⟨rfl, rfl⟩
      have hq : s + 1000 * ta + 1000 * ta * dr / 1000 = s + 1000 * ta + ta * dr := by rw [Int.mul_assoc, Int.mul_ediv_cancel_left _ (by decide)]
      rw [hq]
      clear hq hBs2 hBd2
      have hF := HS.out
      clear HS
      have Hsz : Hid (∀ o, (wr.alloc o).heap.size = wr.heap.size + 1) := Lib.hid (fun o => by simp)
      by_cases hX : s + 1000 * ta + ta * dr - tb < 0
      · have hmx : max (s + 1000 * ta + ta * dr - tb) 0 = 0 := by omega
        rw [hmx] at hF
        have HF := Lib.hid hF
        clear hF hmx
        go_wp2_with (at_builtin; refine wpList_append_own _ rfl _ _ 50 rfl W0.heap.size 55 i0 (.agg #[.int .i64 0, .int .i64 0, .int .i64 0, .int .i64 0]) 4 32 Try.underlying50 hi hz0 hz1 hz2 rfl (by decide) _ _ _ rfl ((hown.alloc _).alloc _) ⟨wr.heap.size + 1, 0, none⟩ 1 1 [.int .i64 0, .int .i64 (1000 * ta), .int .i64 (0), .int .i64 (s + 1000 * ta + ta * dr + tc)] rfl rfl (news5 _ _ _ _ _ _ (Hsz.out _)) (one4 _ _ _ _) ?c3 ?c4 ?c5 ?_)
        case c3 => unfold maxLen; omega
        case c4 => omega
        case c5 => have := hb.size; first | omega | (simp; omega)
        intro v1 w2 hown2 hgr _
        have hb2 : Below W0.heap.size W0 w2 := ((hb.alloc hb.size _).alloc (by have := hb.size; simp; omega) _).grown hgr (by have := hb.size; simp; omega) (fun j hj => (hown.lt j hj).1)
        clear hown hgr c0 c1 c2
        go_wp2
        go_roundw
        case rel => exact ⟨k + 1, by omega, by go_num, by rw [HF.out, List.map_take]; exact hown2, hb2⟩
        case measure => simp [intOf]; omega
      · have hmx : max (s + 1000 * ta + ta * dr - tb) 0 = s + 1000 * ta + ta * dr - tb := by omega
        rw [hmx] at hF
        have HF := Lib.hid hF
        clear hF hmx
        go_wp2_with (at_builtin; refine wpList_append_own _ rfl _ _ 50 rfl W0.heap.size 55 i0 (.agg #[.int .i64 0, .int .i64 0, .int .i64 0, .int .i64 0]) 4 32 Try.underlying50 hi hz0 hz1 hz2 rfl (by decide) _ _ _ rfl ((hown.alloc _).alloc _) ⟨wr.heap.size + 1, 0, none⟩ 1 1 [.int .i64 0, .int .i64 (1000 * ta), .int .i64 (s + 1000 * ta + ta * dr - tb), .int .i64 (s + 1000 * ta + ta * dr + tc)] rfl rfl (news5 _ _ _ _ _ _ (Hsz.out _)) (one4 _ _ _ _) ?c3 ?c4 ?c5 ?_)
        case c3 => unfold maxLen; omega
        case c4 => omega
        case c5 => have := hb.size; first | omega | (simp; omega)
        intro v1 w2 hown2 hgr _
        have hb2 : Below W0.heap.size W0 w2 := ((hb.alloc hb.size _).alloc (by have := hb.size; simp; omega) _).grown hgr (by have := hb.size; simp; omega) (fun j hj => (hown.lt j hj).1)
        clear hown hgr c0 c1 c2
        go_wp2
        go_roundw
        case rel => exact ⟨k + 1, by omega, by go_num, by rw [HF.out, List.map_take]; exact hown2, hb2⟩
        case measure => simp [intOf]; omega
    · have hkn : k = n := by omega
      subst hkn
      have htk : l.take k = l := List.take_of_length_le (by rw [HN.out]; omega)
      rw [htk] at hown
      have hLn : (l.map (ckT s dr)).length = k := by rw [List.length_map]; exact HN.out
      have hG : ∀ c ∈ l.map (ckT s dr), Good s dr c := fun c hc => by
        obtain ⟨t, ht, rfl⟩ := List.mem_map.1 hc
        obtain ⟨o1, o2, o3⟩ := hok t ht
        exact ⟨t.a, t.b, t.c, o1, o2, o3, rfl⟩
      obtain ⟨g, cap', rfl, hg, hglt⟩ := hown.form h1
      have hCk := cks_of hown hLn
      have hkcap : k ≤ cap' := own_cap hown
      clear htk hown hl hok hlt
      generalize l.map (ckT s dr) = L at *
      have HLn := Lib.hid hLn
      clear hLn HN
      have hat : 0 ≤ at_ % 100000 ∧ at_ % 100000 ≤ 99999 := by omega
      obtain ⟨hm0, hm1⟩ := hat
      have hBsr := hBs.below hb (by have := HsW.out; omega)
      have hBdr := hBd.below hb (by have := HsW.out; omega)
      have qd := hBdr.at_ (i := 0) rfl
      have q1 : 0 ≤ 1000 * dr := by omega
      have q2 : 1000 * dr ≤ 100000 := by omega
      go_wp2_with fail
      generalize hmm : at_ % 100000 = m at *
      clear hmm
      obtain ⟨f1, f2, f3⟩ := first hs hs' hd hd' hm0 hm1 hG (by rw [HLn.out]; exact h1) (by rw [HLn.out]; omega)
      have hT := times.time_n (some ⟨g, 0, none⟩) L cap' k HLn.out (1000 * dr) 0 (1000 * m) wr hCk (by omega)
      rw [f1] at hT
      have hY : ∃ y1 y2 ye : Int, timeR (L.take (k - 1)) (1000 * dr) 0 (1000 * m) = (y1, y2, ye) ∧ ((k = 1 ∧ ye = 5) ∨ (1 < k ∧ ye = 0 ∧ y1 ≤ (tms 0 (1000 * m) (1000 * dr) L).1 ∧ (tms 0 (1000 * m) (1000 * dr) L).2 ≤ y2)) := by
        by_cases hk1 : k = 1
        · have e : L.take (k - 1) = [] := by rw [hk1]; rfl
          exact ⟨0, 0, 5, by rw [e]; exact nothing _ _ ⟨q1, q2⟩ (by omega), .inl ⟨hk1, rfl⟩⟩
        · obtain ⟨s1, s2, s3⟩ := second hs hs' hd hd' hm0 hm1 hG (k - 1) (by rw [HLn.out]; omega) (by omega) (by rw [HLn.out]; omega)
          exact ⟨_, _, 0, s1, .inr ⟨by omega, rfl, s2, s3⟩⟩
      obtain ⟨z1, z2, ze, hZ, hZc⟩ := third hs hs' hd hd' hm0 hm1 hG (by rw [HLn.out]; exact h1) (by rw [HLn.out]; omega)
      have HAg := Lib.hid (fun (a b e : Int) (h : AgreeIs L (1000 * dr) a b e) => agrees hs hs' hd hd' hG (by rw [HLn.out]; omega) h)
      generalize tms 0 (1000 * m) (1000 * dr) L = X at *
      obtain ⟨y1, y2, ye, hY, hYc⟩ := hY
      have HY := Lib.hid hY
      have HYc := Lib.hid hYc
      have HZ := Lib.hid hZ
      have HZc := Lib.hid hZc
      clear hY hYc hZ hZc
      obtain ⟨x1, x2⟩ := X
      simp only at hT f2 f3
      refine hT.mono ?_
      clear hT
      rintro e w1 ⟨rfl, hb1⟩
      have hW1 : Below wr.heap.size wr (w1.alloc (.cells #[.int .i64 x1, .int .i64 x2] 53)) := hb1.alloc hb1.size _
      have hX : Two (w1.alloc (.cells #[.int .i64 x1, .int .i64 x2] 53)) w1.heap.size x1 x2 := Two.new ..
      have hBs1 := hBsr.below hW1 hBsr.lt
      have hD := hBdr.below hW1 hBdr.lt
      have hCq := (hCk.mono hW1).more hW1.size
      have hbw1 := hbw.trans (hW1.mono hbw.size)
      clear qd hb1 hW1 hBsr hBdr hCk hbw f1 hb hbW hBs hBd
      have hkk : (k : Int) - 1 = ((k - 1 : Nat) : Int) := by omega
      have hkl : 0 ≤ (k : Int) - 1 := by omega
      go_wp2_with fail
      generalize hwq : w1.alloc (.cells #[.int .i64 x1, .int .i64 x2] 53) = wq at *
      clear hwq
      have hCq' : CksAt wq wq.heap.size (some ⟨g, 0, none⟩) (L.take (k - 1)) := less hCq
      have hkc2 : k - 1 ≤ cap' := by omega
      have hT2 : ∀ W, CksAt W W.heap.size (some ⟨g, 0, none⟩) (L.take (k - 1)) → Calls Try.prog 18 #[.slice (some ⟨g, 0, none⟩) (k - 1) cap', .int .i64 (1000 * dr), .int .i64 0, .int .i64 (1000 * m)] W fun e w' => e = .returned (.tuple #[rg y1 y2, .int .i64 ye]) ∧ Below W.heap.size W w' := fun W hW => by
        have h := times.time_n (some ⟨g, 0, none⟩) (L.take (k - 1)) cap' (k - 1) (by rw [List.length_take, HLn.out]; omega) (1000 * dr) 0 (1000 * m) W hW (by omega)
        rw [HY.out] at h
        exact h
      have HT2 := hT2
      clear hT2
      have hw1 : IntKind.i64.wrap ((k : Int) - 1) = ((k - 1 : Nat) : Int) := by rw [hkk]; exact IntWalk.i64_in _ (by omega)
      have hw2 : IntKind.i64.wrap (1000 * dr) = 1000 * dr := IntWalk.i64_in _ (by omega)
      have hw3 : ((k - 1 : Nat) : Int) ≤ cap' := by omega
      have hw4 : (0 : Int) ≤ ((k - 1 : Nat) : Int) := by omega
      clear hkk hkl
      have hB0 : Below wq.heap.size wq wq := Below.refl _ _
      go_region_held3 (fun w' => w'.cell? ⟨w.heap.size + 1, 0, none⟩ = some (.int .i64 dr)) (first | exact hD.at_ (i := 0) rfl | exact (hD.below hkB hD.lt).at_ (i := 0) rfl | exact ((hD.below hkB hD.lt).alloc_ _).at_ (i := 0) rfl | exact (hD.alloc_ _).at_ (i := 0) rfl | exact (((hD.below hkB hD.lt).set_ (a := ⟨_, 0, none⟩) hD.lt).set_ (a := ⟨_, 1, none⟩) hD.lt).at_ (i := 0) rfl | fail)
        (first | (go_at_call 18; refine (HT2 _ ?_).mono ?_; (first | exact now hCq' | exact later hCq'); rintro e wa ⟨rfl, hba⟩; first | (have hkB := keepV1 hB0 hba) | (have hk2 := keepV2 hB0 hba; obtain ⟨hkB, hz⟩ := hk2; have g0 := hz.c0; have g1 := hz.c1; have g2 := hz.free 0; have g3 := hz.free 1) | fail))
      · have hfull : Below wq.heap.size wq (wa.alloc (.cells #[.int .i64 y1, .int .i64 y2] 53)) := hkB.alloc hkB.size _
        have hYt : Two (wa.alloc (.cells #[.int .i64 y1, .int .i64 y2] 53)) wa.heap.size y1 y2 := Two.new ..
        have R : Rest w L g w1.heap.size (wa.heap.size) s dr x1 x2 y1 y2 (wa.alloc (.cells #[.int .i64 y1, .int .i64 y2] 53)) := ⟨hX.below hfull hX.lt, hYt, hBs1.below hfull hBs1.lt, hD.below hfull hD.lt, (hCq.mono hfull).more hfull.size, hbw1.trans (hfull.mono hbw1.size)⟩
        clear hfull hYt hX hBs1 hD hCq hbw1 hB0 hkB hCq' hw1 hw3 hw4
        generalize (wa.alloc (.cells #[.int .i64 y1, .int .i64 y2] 53)) = W2 at *
        have qd := R.hD.at_ (i := 0) rfl
        go_wp2_with fail
        refine (times.agree_n (some ⟨g, 0, none⟩) L cap' k HLn.out (1000 * dr) _ R.hC hkcap (by omega)).mono ?_
        rintro e w3 ⟨⟨r1, r2, r3, rfl, hA⟩, hb3⟩
        obtain ⟨rfl, rfl, rfl⟩ := HAg.out _ _ _ hA
        have R3 := R.below hb3
        clear hA hb3 qd R
        go_wp2_with fail
        refine (truth_any _ _ s dr (1000 * m) _ (R3.hS.at_ (i := 0) rfl) (R3.hD.at_ (i := 0) rfl) hs hs' hd hd' (by omega) (by omega)).mono ?_
        rintro e w' ⟨rfl, rfl⟩
        have hq : s + 1000 * m + 1000 * m * dr / 1000 = s + 1000 * m + m * dr := by rw [Int.mul_assoc, Int.mul_ediv_cancel_left _ (by decide)]
        rw [hq]
        clear hq
        generalize s + 1000 * m + m * dr = tn at *
        have hxA := R3.hX.c0
        have hxB := R3.hX.c1
        have hyA := R3.hY.c0
        have hyB := R3.hY.c1
        have hyc := HYc.out
        rcases hyc with ⟨hk1, rfl⟩ | ⟨hk1, rfl, hy1, hy2⟩
        · have hka : ((k : Int) == 1) = true := by simp [hk1]
          have hkb : ¬ (1 < (k : Int)) := by omega
          have Hk1 := Lib.hid hk1
          clear hk1
          have qd4 := R3.hD.at_ (i := 0) rfl
          go_wp2_with fail
          refine (times.time_n (some ⟨g, 0, none⟩) L cap' k HLn.out (1000 * dr / 2) 0 (1000 * m) _ R3.hC (by omega)).mono ?_
          rintro e w5 ⟨rfl, hb5⟩
          have R5 := R3.below hb5
          rw [half_drift, HZ.out]
          clear qd4 hb5 hxA hxB hyA hyB
          have hxA := R5.hX.c0
          have hxB := R5.hX.c1
          have hxl := R5.hX.lt
          have hzc := HZc.out
          rcases hzc with rfl | ⟨rfl, hz1, hz2⟩
          · go_wp2_with fail
            refine (awake_any _).mono ?_
            rintro e w6 ⟨rfl, hb6⟩
            go_wp2_with fail
            go_ret
            exact ⟨rfl, R5.hb.trans ((after_alloc hb6).mono R5.hb.size)⟩
          · go_wp2_with fail
            refine (awake_any _).mono ?_
            rintro e w6 ⟨rfl, hb6⟩
            go_wp2_with fail
            go_ret
            exact ⟨rfl, R5.hb.trans ((after_alloc hb6).mono R5.hb.size)⟩
        · have hka : ((k : Int) == 1) = false := by simp; omega
          have hkb : 1 < (k : Int) := by omega
          have qd4 := R3.hD.at_ (i := 0) rfl
          go_wp2_with fail
          refine (times.time_n (some ⟨g, 0, none⟩) L cap' k HLn.out (1000 * dr / 2) 0 (1000 * m) _ R3.hC (by omega)).mono ?_
          rintro e w5 ⟨rfl, hb5⟩
          have R5 := R3.below hb5
          rw [half_drift, HZ.out]
          clear qd4 hb5 hxA hxB hyA hyB
          have hxA := R5.hX.c0
          have hxB := R5.hX.c1
          have hxl := R5.hX.lt
          have hzc := HZc.out
          rcases hzc with rfl | ⟨rfl, hz1, hz2⟩
          · go_wp2_with fail
            refine (awake_any _).mono ?_
            rintro e w6 ⟨rfl, hb6⟩
            go_wp2_with fail
            go_ret
            exact ⟨rfl, R5.hb.trans ((after_alloc hb6).mono R5.hb.size)⟩
          · go_wp2_with fail
            refine (awake_any _).mono ?_
            rintro e w6 ⟨rfl, hb6⟩
            go_wp2_with fail
            go_ret
            exact ⟨rfl, R5.hb.trans ((after_alloc hb6).mono R5.hb.size)⟩
      · have hfull : Below wq.heap.size wq ((wa.setCell ⟨wq.heap.size, 0, none⟩ (.int .i64 y1)).setCell ⟨wq.heap.size, 1, none⟩ (.int .i64 y2)) := (hkB.setCell (p := ⟨wq.heap.size, 0, none⟩) (Nat.le_refl _) _).setCell (p := ⟨wq.heap.size, 1, none⟩) (Nat.le_refl _) _
        have hYt : Two ((wa.setCell ⟨wq.heap.size, 0, none⟩ (.int .i64 y1)).setCell ⟨wq.heap.size, 1, none⟩ (.int .i64 y2)) wq.heap.size y1 y2 := hz.set _ _
        have R : Rest w L g w1.heap.size (wq.heap.size) s dr x1 x2 y1 y2 ((wa.setCell ⟨wq.heap.size, 0, none⟩ (.int .i64 y1)).setCell ⟨wq.heap.size, 1, none⟩ (.int .i64 y2)) := ⟨hX.below hfull hX.lt, hYt, hBs1.below hfull hBs1.lt, hD.below hfull hD.lt, (hCq.mono hfull).more hfull.size, hbw1.trans (hfull.mono hbw1.size)⟩
        clear hfull hYt hX hBs1 hD hCq hbw1 hB0 hkB hCq' hw1 hw3 hw4
        generalize ((wa.setCell ⟨wq.heap.size, 0, none⟩ (.int .i64 y1)).setCell ⟨wq.heap.size, 1, none⟩ (.int .i64 y2)) = W2 at *
        have qd := R.hD.at_ (i := 0) rfl
        go_wp2_with fail
        refine (times.agree_n (some ⟨g, 0, none⟩) L cap' k HLn.out (1000 * dr) _ R.hC hkcap (by omega)).mono ?_
        rintro e w3 ⟨⟨r1, r2, r3, rfl, hA⟩, hb3⟩
        obtain ⟨rfl, rfl, rfl⟩ := HAg.out _ _ _ hA
        have R3 := R.below hb3
        clear hA hb3 qd R
        go_wp2_with fail
        refine (truth_any _ _ s dr (1000 * m) _ (R3.hS.at_ (i := 0) rfl) (R3.hD.at_ (i := 0) rfl) hs hs' hd hd' (by omega) (by omega)).mono ?_
        rintro e w' ⟨rfl, rfl⟩
        have hq : s + 1000 * m + 1000 * m * dr / 1000 = s + 1000 * m + m * dr := by rw [Int.mul_assoc, Int.mul_ediv_cancel_left _ (by decide)]
        rw [hq]
        clear hq
        generalize s + 1000 * m + m * dr = tn at *
        have hxA := R3.hX.c0
        have hxB := R3.hX.c1
        have hyA := R3.hY.c0
        have hyB := R3.hY.c1
        have hyc := HYc.out
        rcases hyc with ⟨hk1, rfl⟩ | ⟨hk1, rfl, hy1, hy2⟩
        · have hka : ((k : Int) == 1) = true := by simp [hk1]
          have hkb : ¬ (1 < (k : Int)) := by omega
          have Hk1 := Lib.hid hk1
          clear hk1
          have qd4 := R3.hD.at_ (i := 0) rfl
          go_wp2_with fail
          refine (times.time_n (some ⟨g, 0, none⟩) L cap' k HLn.out (1000 * dr / 2) 0 (1000 * m) _ R3.hC (by omega)).mono ?_
          rintro e w5 ⟨rfl, hb5⟩
          have R5 := R3.below hb5
          rw [half_drift, HZ.out]
          clear qd4 hb5 hxA hxB hyA hyB
          have hxA := R5.hX.c0
          have hxB := R5.hX.c1
          have hxl := R5.hX.lt
          have hzc := HZc.out
          rcases hzc with rfl | ⟨rfl, hz1, hz2⟩
          · go_wp2_with fail
            refine (awake_any _).mono ?_
            rintro e w6 ⟨rfl, hb6⟩
            go_wp2_with fail
            go_ret
            exact ⟨rfl, R5.hb.trans ((after_alloc hb6).mono R5.hb.size)⟩
          · go_wp2_with fail
            refine (awake_any _).mono ?_
            rintro e w6 ⟨rfl, hb6⟩
            go_wp2_with fail
            go_ret
            exact ⟨rfl, R5.hb.trans ((after_alloc hb6).mono R5.hb.size)⟩
        · have hka : ((k : Int) == 1) = false := by simp; omega
          have hkb : 1 < (k : Int) := by omega
          have qd4 := R3.hD.at_ (i := 0) rfl
          go_wp2_with fail
          refine (times.time_n (some ⟨g, 0, none⟩) L cap' k HLn.out (1000 * dr / 2) 0 (1000 * m) _ R3.hC (by omega)).mono ?_
          rintro e w5 ⟨rfl, hb5⟩
          have R5 := R3.below hb5
          rw [half_drift, HZ.out]
          clear qd4 hb5 hxA hxB hyA hyB
          have hxA := R5.hX.c0
          have hxB := R5.hX.c1
          have hxl := R5.hX.lt
          have hzc := HZc.out
          rcases hzc with rfl | ⟨rfl, hz1, hz2⟩
          · go_wp2_with fail
            refine (awake_any _).mono ?_
            rintro e w6 ⟨rfl, hb6⟩
            go_wp2_with fail
            go_ret
            exact ⟨rfl, R5.hb.trans ((after_alloc hb6).mono R5.hb.size)⟩
          · go_wp2_with fail
            refine (awake_any _).mono ?_
            rintro e w6 ⟨rfl, hb6⟩
            go_wp2_with fail
            go_ret
            exact ⟨rfl, R5.hb.trans ((after_alloc hb6).mono R5.hb.size)⟩
end Go.Proofs.Ytkdmdoipjhcmgaa.truth
