/- The reference's fractions. -/
import Derived.Test.YtafckcmieepmaaaGreatDoorRefN
import Derived.Test.YtafckcmieepmaaaGreatDoorFracM
import Derived.Test.YtafckcmieepmaaaGreatDoorMem
import Derived.Test.YtafckcmieepmaaaGreatDoorFrac2
namespace Go.Proofs.YtafckcmieepmaaaGreatDoor
namespace R3
open Go.RowKit Go.Sort D3 Fr
def RefAt (w : World) (v : Value) (q : Rat) : Prop :=
  ∃ a c b d, v = .agg #[.bool (neg q), .slice a (nl (top q)) c, .slice b (nl q.den) d] ∧ DigsAt w a (nl (top q)) c (top q) ∧ DigsAt w b (nl q.den) d q.den
theorem RefAt.mono {w w' : World} {v : Value} {q : Rat} (h : RefAt w v q) (hb : Below w.heap.size w w') : RefAt w' v q := by
  obtain ⟨a, c, b, d, e, h1, h2⟩ := h
  exact ⟨a, c, b, d, e, h1.mono hb, h2.mono hb⟩
def GivesR (w : World) (q : Rat) (e : Ending) (w' : World) : Prop := ∃ v, e = .returned v ∧ RefAt w' v q ∧ Below w.heap.size w w'
theorem ref_at {w : World} {s : Bool} {n d : Nat} {a b : Option Addr} {c c' : Nat} (hn : n ≠ 0) (hd : d ≠ 0) (hc : Nat.Coprime n d) (h : DigsAt w a (nl n) c n) (hb : DigsAt w b (nl d) c' d) :
    RefAt w (.agg #[.bool s, .slice a (nl n) c, .slice b (nl d) c']) (frac s n d) := by
  refine ⟨a, c, b, c', ?_, ?_, ?_⟩
  · rw [frac_top hd hc, frac_neg hd hc hn, (frac_red hd hc).2]
  · rw [frac_top hd hc]; exact h
  · rw [(frac_red hd hc).2]; exact hb
theorem nl_one : nl 1 = 1 := by decide
def NoDig (cs : Array Value) : Prop := ∀ (i : Nat) (n : Int), cs[i]? ≠ some (.int .u32 n)
theorem DigsAt.filled {w X : World} {a : Option Addr} {m cap Y r : Nat} {t t' : TypeId} {cs : Array Value} {vs : List Value} (h : DigsAt w a m cap Y) (hB : Box w r t cs) (hn : NoDig cs) (hX : Filled r t' vs w X) : DigsAt X a m cap Y :=
  ⟨h.lt, h.fit, fun hm => by
    obtain ⟨b, off, e, hlt, hc⟩ := h.cells hm
    refine ⟨b, off, e, Nat.lt_of_lt_of_le hlt hX.size, fun i hi => ?_⟩
    have h1 := hc i hi
    have hbr : b ≠ r := by
      rintro rfl
      rw [cell_of_row w b (off + i) cs t _ hB] at h1
      exact hn _ _ h1
    exact (World.cell?_of_block (w := w) (a := ⟨b, off + i, none⟩) (hX.other b hbr)).trans h1⟩
theorem RefAt.filled {w X : World} {v : Value} {q : Rat} {r : Nat} {t t' : TypeId} {cs : Array Value} {vs : List Value} (h : RefAt w v q) (hB : Box w r t cs) (hn : NoDig cs) (hX : Filled r t' vs w X) : RefAt X v q := by
  obtain ⟨a, c, b, d, e, h1, h2⟩ := h
  exact ⟨a, c, b, d, e, h1.filled hB hn hX, h2.filled hB hn hX⟩
abbrev zR3 : Array Value := #[.bool false, .slice none 0 0, .slice none 0 0]
theorem zR3_no : NoDig zR3 := by
  intro i n h
  rcases i with _ | _ | _ | i <;> simp at h
theorem ref_one (s : Bool) (a b : Option Addr) (n c m d : Nat) : ∀ v ∈ [Value.bool s, .slice a n c, .slice b m d], v.oneCell' = true := by
  intro v hv
  simp only [List.mem_cons, List.mem_nil_iff, or_false] at hv
  rcases hv with rfl | rfl | rfl <;> rfl
theorem infoR : (Tryz.prog.info? 35).map (·.size) = some 3 := by kernel_rfl
theorem ref_zero {w : World} {a b : Option Addr} {c c' : Nat} (h : DigsAt w a (nl 1) c 1) : RefAt w (.agg #[.bool false, .slice b 0 c', .slice a (nl 1) c]) 0 :=
  ⟨b, c', a, c, rfl, DigsAt.zero _ _ _, h⟩
set_option maxHeartbeats 4000000 in
theorem made_zero (s : Bool) (a b : Option Addr) (c nb cb : Nat) (w : World) :
    Calls Tryz.prog 44 #[.bool s, .slice a 0 c, .slice b nb cb] w (GivesR w 0) := by
  have HN := fun W => Lib.hid (nat_any 1 (by omega) W)
  go_enter Tryz.func44, Tryz.ntmps44
  have HR0 := Lib.hid (Box.new w 35 zR3)
  have HB0 := Lib.hid ((Below.refl w.heap.size w).alloc (Nat.le_refl _) (.cells zR3 35))
  go_wp2_with fail
  obtain ⟨W, hW⟩ : ∃ W, W = (w.alloc (.cells zR3 35)).alloc (.cells #[] 141) := ⟨_, rfl⟩
  rw [← hW]
  have hs : W.heap.size = w.heap.size + 2 := by rw [hW]; simp
  have hbW : Below (w.heap.size + 1) (w.alloc (.cells zR3 35)) W := by rw [hW]; exact (Below.refl _ _).alloc (by simp) _
  have HR1 := Lib.hid (HR0.out.below hbW (Nat.lt_succ_self _))
  have HB1 := Lib.hid (HB0.out.trans (hbW.mono (Nat.le_succ _)))
  clear hbW hW
  refine (HN W).out.mono ?_
  rintro e w2 ⟨a2, c2, rfl, hd2, hb2, -⟩
  have HR2 := Lib.hid (HR1.out.below hb2 (by omega))
  have HB2 := Lib.hid (HB1.out.trans (hb2.mono (by omega)))
  have HV := Lib.hid (ref_zero (b := some ⟨w.heap.size + 1, 0, none⟩) (c' := 0) hd2)
  clear hb2 hd2 HN HR0 HB0 HR1 HB1
  go_wp2_with (first | (refine wpList_box_store rfl 35 _ _ rfl w.heap.size rfl [_, _, _] rfl _ _ HR2.out rfl infoR (ref_one _ _ _ _ _ _ _) ?_; intro X hX))
  exact bodyPost_ret (v := _) (results_cell Tryz.results44 _ _ _ _ rfl (box_load _ hX.box Tryz.underlying35 rfl infoR)) rfl ⟨_, rfl, HV.out.filled HR2.out zR3_no hX, HB2.out.trans (hX.below _ (Nat.le_refl _))⟩
set_option maxHeartbeats 4000000 in
theorem made_any (s : Bool) (a b : Option Addr) (c c' n d : Nat) (w : World) (h : DigsAt w a (nl n) c n) (hb : DigsAt w b (nl d) c' d) (hd : d ≠ 0) (hnn : nl n ≤ 134217728) (hnd : nl d ≤ 134217728) :
    Calls Tryz.prog 44 #[.bool s, .slice a (nl n) c, .slice b (nl d) c'] w (GivesR w (frac s n d)) := by
  by_cases hn : n = 0
  · subst hn
    rw [frac_zero, nl_zero]
    exact made_zero s a b c _ c' w
  · have g0 : ((nl n : Int) == 0) = false := by have := nl_pos hn; simp; omega
    obtain ⟨g, hg⟩ : ∃ g, g = Nat.gcd n d := ⟨_, rfl⟩
    obtain ⟨l1, l2, l3⟩ := frac_lowest (s := s) (n := n) hd
    rw [← hg] at l1 l2 l3
    have hgn : g ∣ n := by rw [hg]; exact Nat.gcd_dvd_left ..
    have hg0 : g ≠ 0 := by rintro rfl; exact hn (Nat.eq_zero_of_zero_dvd hgn)
    have hng0 : n / g ≠ 0 := by
      have := Nat.div_pos (Nat.le_of_dvd (by omega) hgn) (by omega : 0 < g)
      omega
    have hgl : nl g ≤ 134217728 := Nat.le_trans (nl_mono (Nat.le_of_dvd (by omega) hgn)) hnn
    have HR0 := Lib.hid (Box.new w 35 zR3)
    have HB0 := Lib.hid ((Below.refl w.heap.size w).alloc (Nat.le_refl _) (.cells zR3 35))
    have HL := Lib.hid (And.intro l1 (And.intro l2 (And.intro l3 hng0)))
    have HG := Lib.hid (And.intro hg0 hgl)
    have HH := Lib.hid (And.intro h hb)
    have HGE := Lib.hid hg
    clear h hb hg l1 l2 l3 hgn hg0 hng0 hgl hn
    go_enter Tryz.func44, Tryz.ntmps44
    go_wp2_with fail
    obtain ⟨W, hW⟩ : ∃ W, W = w.alloc (.cells zR3 35) := ⟨_, rfl⟩
    rw [← hW] at HR0 HB0 ⊢
    have hs : W.heap.size = w.heap.size + 1 := by rw [hW]; simp
    clear hW
    refine (divisor_any a b c c' n d W (HH.out.1.mono HB0.out) (HH.out.2.mono HB0.out) hnn hnd).mono ?_
    rw [← HGE.out]
    rintro e w1 ⟨ag, cg, rfl, hg1, hb1⟩
    have HR1 := Lib.hid (HR0.out.below hb1 (by omega))
    have HB1 := Lib.hid (HB0.out.trans (hb1.mono (by omega)))
    have HG1 := Lib.hid hg1
    have z1 : w.heap.size < w1.heap.size := Nat.lt_of_lt_of_le (by omega : w.heap.size < W.heap.size) hb1.size
    clear hb1 hg1 HR0 HB0
    go_wp2_with fail
    refine (nat_any 1 (by omega) w1).mono ?_
    rintro e w2 ⟨a1, c1, rfl, hd2, hb2, -⟩
    have HR2 := Lib.hid (HR1.out.below hb2 z1)
    have HB2 := Lib.hid (HB1.out.trans (hb2.mono HB1.out.size))
    have HG2 := Lib.hid (HG1.out.mono hb2)
    have HO := Lib.hid (order_any ag a1 cg c1 g 1 w2 HG2.out hd2 (by have := HG.out.2; omega))
    clear hb2 hd2 HR1 HB1 HG1
    go_wp2_with fail
    refine HO.out.mono ?_
    rintro e w3 ⟨rfl, q, rfl⟩
    have HR3 := Lib.hid (show Box (w2.drewN q) w.heap.size 35 zR3 from HR2.out)
    have HB3 := Lib.hid (below_dn HB2.out q)
    have HG3 := Lib.hid (HG2.out.drawn q)
    have z3 : w.heap.size < (w2.drewN q).heap.size := HR2.out.lt
    have HN3 := Lib.hid (HH.out.1.mono HB3.out)
    have HD3 := Lib.hid (HH.out.2.mono HB3.out)
    clear HR2 HB2 HG2 HO z1
    by_cases h1 : g = 1
    · have HV := Lib.hid (show RefAt (w2.drewN q) (.agg #[.bool s, .slice a (nl n) c, .slice b (nl d) c']) (frac s n d) from by
        obtain ⟨_, l2, l3, l4⟩ := HL.out
        rw [h1, Nat.div_one, Nat.div_one] at l2
        rw [h1, Nat.div_one] at l3 l4
        exact ref_at l4 l3 l2 HN3.out HD3.out)
      have g2 : cmpN g 1 = 0 := cmpN_eq h1
      clear h1
      go_wp2_with (first | (refine wpList_box_store rfl 35 _ _ rfl w.heap.size rfl [_, _, _] rfl _ _ HR3.out rfl infoR (ref_one _ _ _ _ _ _ _) ?_; intro X hX))
      exact bodyPost_ret (v := _) (results_cell Tryz.results44 _ _ _ _ rfl (box_load _ hX.box Tryz.underlying35 rfl infoR)) rfl ⟨_, rfl, HV.out.filled HR3.out zR3_no hX, HB3.out.trans (hX.below _ (Nat.le_refl _))⟩
    · have hgt : 1 < g := by have := HG.out.1; omega
      have g2 : cmpN g 1 = 1 := cmpN_gt hgt
      have HQ := Lib.hid (quotient_any a ag c cg n g (w2.drewN q) HN3.out HG3.out (by omega) hnn HG.out.2)
      clear h1 hgt
      go_wp2_with fail
      refine HQ.out.mono ?_
      rintro e w4 ⟨a4, c4, a5, c5, rfl, hd4, hd5, hb4⟩
      have HR4 := Lib.hid (HR3.out.below hb4 z3)
      have HB4 := Lib.hid (HB3.out.trans (hb4.mono (Nat.le_of_lt z3)))
      have z4 : w.heap.size < w4.heap.size := Nat.lt_of_lt_of_le z3 hb4.size
      have HQ2 := Lib.hid (quotient_any b ag c' cg d g w4 (HD3.out.mono hb4) (HG3.out.mono hb4) HG.out.1 hnd HG.out.2)
      have HD4 := Lib.hid hd4
      clear hb4 hd4 hd5 HR3 HB3 HQ HN3 HD3 HG3
      obtain ⟨n', hn'⟩ : ∃ x, x = n / g := ⟨_, rfl⟩
      obtain ⟨d', hd'⟩ : ∃ x, x = d / g := ⟨_, rfl⟩
      rw [← hn'] at HD4 ⊢
      rw [← hd'] at HQ2
      rw [← hn', ← hd'] at HL
      clear hn' hd'
      go_wp2_with fail
      refine HQ2.out.mono ?_
      rintro e w6 ⟨a6, c6, a7, c7, rfl, hd6, hd7, hb6⟩
      have HR6 := Lib.hid (HR4.out.below hb6 z4)
      have HB6 := Lib.hid (HB4.out.trans (hb6.mono (Nat.le_of_lt z4)))
      have HV := Lib.hid (show RefAt w6 (.agg #[.bool s, .slice a4 (nl n') c4, .slice a6 (nl d') c6]) (frac s n d) from by
        obtain ⟨l1, l2, l3, l4⟩ := HL.out
        rw [← l1]
        exact ref_at l4 l3 l2 (HD4.out.mono hb6) hd6)
      clear hb6 hd6 hd7 HR4 HB4 HQ2 HD4
      go_wp2_with (first | (refine wpList_box_store rfl 35 _ _ rfl w.heap.size rfl [_, _, _] rfl _ _ HR6.out rfl infoR (ref_one _ _ _ _ _ _ _) ?_; intro X hX))
      exact bodyPost_ret (v := _) (results_cell Tryz.results44 _ _ _ _ rfl (box_load _ hX.box Tryz.underlying35 rfl infoR)) rfl ⟨_, rfl, HV.out.filled HR6.out zR3_no hX, HB6.out.trans (hX.below _ (Nat.le_refl _))⟩
end R3
end Go.Proofs.YtafckcmieepmaaaGreatDoor
namespace Go.Proofs.YtafckcmieepmaaaGreatDoor
namespace R3
open Go.RowKit Go.Sort D3 Fr
theorem nl_i64 {n : Int} (h0 : -9223372036854775808 ≤ n) (h1 : n ≤ 9223372036854775807) : nl n.natAbs ≤ 2 := nl_le (by unfold B; omega)
set_option maxHeartbeats 4000000 in
theorem magnitude_any (n : Int) (h0 : -9223372036854775808 ≤ n) (h1 : n ≤ 9223372036854775807) (w : World) :
    Calls Tryz.prog 45 #[.int .i64 n] w (Gives w n.natAbs) := by
  have HW := Lib.hid (nat_any n.natAbs (by omega) w)
  by_cases hn : n < 0
  · have e : Value.int .u64 (IntKind.u64.wrap (-(IntKind.u64.wrap n))) = .int .u64 (n.natAbs : Nat) := by
      congr 1
      rw [IntKind.wrap_u64, IntKind.wrap_u64]; omega
    have E := Lib.hid e
    clear e
    go_enter Tryz.func45, Tryz.ntmps45
    go_wp2_with fail
    rw [E.out]
    refine HW.out.mono ?_
    rintro e w' ⟨a, c, rfl, hd, hb, hnw⟩
    have HD := Lib.hid (And.intro hd (And.intro hb hnw))
    clear hd hb hnw
    go_wp2
    go_ret
    exact ⟨a, c, rfl, HD.out.1, HD.out.2⟩
  · have e : Value.int .u64 n = .int .u64 (n.natAbs : Nat) := by congr 1; omega
    have E := Lib.hid e
    clear e
    go_enter Tryz.func45, Tryz.ntmps45
    go_wp2_with fail
    rw [E.out]
    refine HW.out.mono ?_
    rintro e w' ⟨a, c, rfl, hd, hb, hnw⟩
    have HD := Lib.hid (And.intro hd (And.intro hb hnw))
    clear hd hb hnw
    go_wp2
    go_ret
    exact ⟨a, c, rfl, HD.out.1, HD.out.2⟩
set_option maxHeartbeats 4000000 in
theorem int_any (n : Int) (h0 : -9223372036854775808 ≤ n) (h1 : n ≤ 9223372036854775807) (w : World) :
    Calls Tryz.prog 22 #[.int .i64 n] w (GivesR w n) := by
  have HS := Lib.hid (fun W => magnitude_any n h0 h1 W)
  have HR := Lib.hid (Box.new w 35 zR3)
  have hn2 := nl_i64 h0 h1
  rw [← frac_int n]
  have hz : w.heap.size < (w.alloc (.cells zR3 35)).heap.size := by simp
  have hba := Lib.hid ((Below.refl w.heap.size w).alloc (Nat.le_refl _) (.cells zR3 35))
  go_enter Tryz.func22, Tryz.ntmps22
  go_wp2_with fail
  refine (HS.out _).mono ?_
  rintro e w1 ⟨a1, c1, rfl, hd1, hb1, -⟩
  have HR1 := Lib.hid (HR.out.below hb1 hz)
  have HB1 := Lib.hid (hba.out.trans (hb1.mono (Nat.le_of_lt hz)))
  have HD1 := Lib.hid hd1
  have hz1 : w.heap.size < w1.heap.size := Nat.lt_of_lt_of_le hz hb1.size
  clear hd1 hb1 HS HR hba hz
  go_wp2_with fail
  refine (nat_any 1 (by omega) w1).mono ?_
  rintro e w2 ⟨a2, c2, rfl, hd2, hb2, -⟩
  have HR2 := Lib.hid (HR1.out.below hb2 hz1)
  have HB2 := Lib.hid (HB1.out.trans (hb2.mono (Nat.le_of_lt hz1)))
  have hz2 : w.heap.size < w2.heap.size := Nat.lt_of_lt_of_le hz1 hb2.size
  have HM := Lib.hid (made_any (decide (n < 0)) a1 a2 c1 c2 n.natAbs 1 w2 (HD1.out.mono hb2) hd2 (by decide) (by omega) (by rw [nl_one]; omega))
  clear hd2 hb2 HR1 HB1 HD1 hz1
  go_wp2_with fail
  refine HM.out.mono ?_
  rintro e w3 ⟨v, rfl, hv, hb3⟩
  have HV := Lib.hid hv
  obtain ⟨a3, c3, b3, d3, rfl, _, _⟩ := hv
  have HR3 := Lib.hid (HR2.out.below hb3 hz2)
  have HB3 := Lib.hid (HB2.out.trans (hb3.mono (Nat.le_of_lt hz2)))
  clear hb3 HR2 HB2 HM
  go_wp2_with (first | (refine wpList_box_store rfl 35 _ _ rfl w.heap.size rfl [_, _, _] rfl _ _ HR3.out rfl infoR (ref_one _ _ _ _ _ _ _) ?_; intro X hX))
  exact bodyPost_ret (v := _) (results_cell Tryz.results22 _ _ _ _ rfl (box_load _ hX.box Tryz.underlying35 rfl infoR)) rfl ⟨_, rfl, HV.out.filled HR3.out zR3_no hX, HB3.out.trans (hX.below _ (Nat.le_refl _))⟩
def GivesRE (w : World) (q : Rat) (e : Ending) (w' : World) : Prop := ∃ v, e = .returned (.tuple #[v, .int .i64 0]) ∧ RefAt w' v q ∧ Below w.heap.size w w'
set_option maxHeartbeats 4000000 in
theorem new_any (n d : Int) (h0 : -9223372036854775808 ≤ n) (h1 : n ≤ 9223372036854775807) (k0 : -9223372036854775808 ≤ d) (k1 : d ≤ 9223372036854775807) (hd0 : d ≠ 0) (w : World) :
    Calls Tryz.prog 23 #[.int .i64 n, .int .i64 d] w (GivesRE w ((n : Rat) / (d : Rat))) := by
  have HS := Lib.hid (fun W => magnitude_any n h0 h1 W)
  have HS2 := Lib.hid (fun W => magnitude_any d k0 k1 W)
  have hn1 := nl_i64 h0 h1
  have hn2 := nl_i64 k0 k1
  have HR := Lib.hid (Box.new w 35 zR3)
  rw [← frac_div n d]
  have hz : w.heap.size < (w.alloc (.cells zR3 35)).heap.size := by simp
  have hba := Lib.hid ((Below.refl w.heap.size w).alloc (Nat.le_refl _) (.cells zR3 35))
  have hdb : ((d : Int) == 0) = false := by rw [beq_eq_false_iff_ne]; exact hd0
  have hda : d.natAbs ≠ 0 := by omega
  go_enter Tryz.func23, Tryz.ntmps23
  go_wp2_with fail
  refine (HS.out _).mono ?_
  rintro e w1 ⟨a1, c1, rfl, hd1, hb1, -⟩
  have HR1 := Lib.hid (HR.out.below hb1 hz)
  have HB1 := Lib.hid (hba.out.trans (hb1.mono (Nat.le_of_lt hz)))
  have HD1 := Lib.hid hd1
  have hz1 : w.heap.size < w1.heap.size := Nat.lt_of_lt_of_le hz hb1.size
  clear hd1 hb1 HS HR hba hz
  go_wp2_with fail
  refine (HS2.out _).mono ?_
  rintro e w2 ⟨a2, c2, rfl, hd2, hb2, -⟩
  have HR2 := Lib.hid (HR1.out.below hb2 hz1)
  have HB2 := Lib.hid (HB1.out.trans (hb2.mono (Nat.le_of_lt hz1)))
  have hz2 : w.heap.size < w2.heap.size := Nat.lt_of_lt_of_le hz1 hb2.size
  have HM := Lib.hid (made_any (decide (n < 0) != decide (d < 0)) a1 a2 c1 c2 n.natAbs d.natAbs w2 (HD1.out.mono hb2) hd2 hda (by omega) (by omega))
  clear hd2 hb2 HR1 HB1 HD1 hz1 HS2
  go_wp2_with fail
  have hneq : (!(decide (n < 0) == decide (d < 0))) = (decide (n < 0) != decide (d < 0)) := rfl
  refine HM.out.mono ?_
  rintro e w3 ⟨v, rfl, hv, hb3⟩
  have HV := Lib.hid hv
  obtain ⟨a3, c3, b3, d3, rfl, _, _⟩ := hv
  have HR3 := Lib.hid (HR2.out.below hb3 hz2)
  have HB3 := Lib.hid (HB2.out.trans (hb3.mono (Nat.le_of_lt hz2)))
  clear hb3 HR2 HB2 HM hneq
  go_wp2_with (first | (refine wpList_box_store rfl 35 _ _ rfl w.heap.size rfl [_, _, _] rfl _ _ HR3.out rfl infoR (ref_one _ _ _ _ _ _ _) ?_; intro X hX))
  exact bodyPost_ret (v := _) (results_cell_slot Tryz.results23 _ _ _ _ rfl (box_load _ hX.box Tryz.underlying35 rfl infoR)) rfl ⟨_, rfl, HV.out.filled HR3.out zR3_no hX, HB3.out.trans (hX.below _ (Nat.le_refl _))⟩
set_option maxHeartbeats 4000000 in
theorem under_any {w : World} {v : Value} {q : Rat} (h : RefAt w v q) : Calls Tryz.prog 87 #[v] w (GivesA w q.den) := by
  obtain ⟨a, c, b, d, rfl, _, hd⟩ := h
  have H := Lib.hid hd
  have hp := nl_pos q.den_nz
  have g0 : ((nl q.den : Int) == 0) = false := by simp; omega
  clear hd
  go_enter Tryz.func87, Tryz.ntmps87
  go_wp2
  go_ret
  have hb : Below w.heap.size w (w.alloc (.cells #[.bool (neg q), .slice a (nl (top q)) c, .slice b (nl q.den) d] 35)) := (Below.refl _ _).alloc (Nat.le_refl _) _
  exact ⟨_, _, rfl, H.out.mono hb, hb⟩
end R3
end Go.Proofs.YtafckcmieepmaaaGreatDoor
namespace Go.Proofs.YtafckcmieepmaaaGreatDoor
namespace R3
open Go.RowKit Go.Sort D3 Fr
def SmallR (q : Rat) : Prop := nl (top q) ≤ 33554432 ∧ nl q.den ≤ 33554432
end R3
end Go.Proofs.YtafckcmieepmaaaGreatDoor
namespace Go.Proofs.YtafckcmieepmaaaGreatDoor
namespace R3
open Go.RowKit Go.Sort D3 Fr
theorem DigsAt.drew {w : World} {a : Option Addr} {m cap Y : Nat} (h : DigsAt w a m cap Y) : DigsAt w.drew a m cap Y := ⟨h.lt, h.fit, h.cells⟩
theorem sgm (s : Bool) (m e : Nat) : sg s m * (e : Int) = sg s (m * e) := by unfold sg; cases s <;> simp [Int.neg_mul]
theorem sg_same (s : Bool) (P Q : Nat) : sg s P + sg s Q = sg s (P + Q) := by unfold sg; cases s <;> simp <;> omega
theorem sg_diff {s t : Bool} {P Q : Nat} (hst : s ≠ t) (h : Q ≤ P) : sg s P + sg t Q = sg s (P - Q) := by unfold sg; cases s <;> cases t <;> simp at hst ⊢ <;> omega
theorem frac_add_same {s : Bool} {m n d e : Nat} (hd : d ≠ 0) (he : e ≠ 0) : frac s m d + frac s n e = frac s (m * e + n * d) (d * e) := by
  rw [frac_add hd he, sgm, sgm, sg_same]; rfl
theorem frac_add_ge {s t : Bool} {m n d e : Nat} (hd : d ≠ 0) (he : e ≠ 0) (hst : s ≠ t) (h : n * d ≤ m * e) : frac s m d + frac t n e = frac s (m * e - n * d) (d * e) := by
  rw [frac_add hd he, sgm, sgm, sg_diff hst h]; rfl
theorem frac_add_lt {s t : Bool} {m n d e : Nat} (hd : d ≠ 0) (he : e ≠ 0) (hst : s ≠ t) (h : m * e ≤ n * d) : frac s m d + frac t n e = frac t (n * d - m * e) (d * e) := by
  rw [frac_add hd he, sgm, sgm, Int.add_comm, sg_diff (Ne.symm hst) h]; rfl
set_option maxHeartbeats 8000000 in
theorem add_any {w : World} {u v : Value} {x y : Rat} (hx : RefAt w u x) (hy : RefAt w v y) (hsx : SmallR x) (hsy : SmallR y) : Calls Tryz.prog 52 #[u, v] w (GivesR w (x + y)) := by
  have HUx := Lib.hid (fun W (hW : Below w.heap.size w W) => under_any (hx.mono hW))
  have HUy := Lib.hid (fun W (hW : Below w.heap.size w W) => under_any (hy.mono hW))
  have hxf := frac_self x
  have hyf := frac_self y
  rw [show x + y = frac (neg x) (top x) x.den + frac (neg y) (top y) y.den by rw [hxf, hyf]]
  clear hxf hyf
  obtain ⟨ax, cx, bx, kx, rfl, hdx, _⟩ := hx
  obtain ⟨ay, cy, bY, ky, rfl, hdy, _⟩ := hy
  have hnx := den_ne x
  have hny := den_ne y
  obtain ⟨hx1, hx2⟩ := hsx
  obtain ⟨hy1, hy2⟩ := hsy
  generalize neg x = sx at *
  generalize neg y = sy at *
  generalize top x = nx at *
  generalize top y = ny at *
  generalize x.den = dx at *
  generalize y.den = dy at *
  have HPa := Lib.hid (fun W a c (hW : Below w.heap.size w W) (h : DigsAt W a (nl dy) c dy) => prod_any ax a cx c nx dy W (hdx.mono hW) h (by omega) (by omega))
  have HPb := Lib.hid (fun W a c (hW : Below w.heap.size w W) (h : DigsAt W a (nl dx) c dx) => prod_any ay a cy c ny dx W (hdy.mono hW) h (by omega) (by omega))
  have HPc := Lib.hid (fun W a b c d (h1 : DigsAt W a (nl dx) c dx) (h2 : DigsAt W b (nl dy) d dy) => prod_any a b c d dx dy W h1 h2 (by omega) (by omega))
  have q1 := nl_mul_le nx dy
  have q2 := nl_mul_le ny dx
  have q3 := nl_mul_le dx dy
  have q4 := nl_add_le (nx * dy) (ny * dx)
  have hd0 := Nat.mul_ne_zero hnx hny
  have HA1 := Lib.hid (fun (h : sx = sy) => (by subst h; exact frac_add_same hnx hny : frac sx nx dx + frac sy ny dy = frac sx (nx * dy + ny * dx) (dx * dy)))
  have HA2 := Lib.hid (fun (h : sx ≠ sy) (h2 : ny * dx ≤ nx * dy) => frac_add_ge (m := nx) (n := ny) hnx hny h h2)
  have HA3 := Lib.hid (fun (h : sx ≠ sy) (h2 : nx * dy ≤ ny * dx) => frac_add_lt (m := nx) (n := ny) hnx hny h h2)
  clear hdx hdy hnx hny
  generalize nx * dy = p1 at *
  generalize ny * dx = p2 at *
  generalize dx * dy = p3 at *
  have HMD := Lib.hid (fun (s : Bool) (n : Nat) (hn : nl n ≤ 134217728) W a b c c' (h1 : DigsAt W a (nl n) c n) (h2 : DigsAt W b (nl p3) c' p3) => made_any s a b c c' n p3 W h1 h2 hd0 hn (by omega))
  have n1 : nl p1 ≤ 67108864 := by omega
  have n2 : nl p2 ≤ 67108864 := by omega
  have n3 : nl (p1 + p2) ≤ 134217728 := by omega
  clear q1 q2 q3 q4 hd0 hx1 hx2 hy1 hy2
  have HM0 := Lib.hid ((((Mem.start w).new' (n := w.heap.size) (by simp) 35 [.bool sx, .slice ax (nl nx) cx, .slice bx (nl dx) kx]).new' (n := w.heap.size + 1) (by simp) 35 [.bool sy, .slice ay (nl ny) cy, .slice bY (nl dy) ky]).new' (n := w.heap.size + 1 + 1) (by simp) 35 [.bool false, .slice none 0 0, .slice none 0 0])
  go_enter Tryz.func52, Tryz.ntmps52
  go_wp2_with fail
  generalize hW : ((w.alloc (.cells _ 35)).alloc (.cells _ 35)).alloc (.cells _ 35) = W at HM0 ⊢
  clear hW
  have ne1 : ¬ w.heap.size = w.heap.size + 1 + 1 := by omega
  have ne2 : ¬ w.heap.size + 1 + 1 = w.heap.size := by omega
  obtain ⟨j0, j1, j2⟩ := S3 (HM0.out.box (i := 1) rfl)
  obtain ⟨k0, k1, k2⟩ := S3 (HM0.out.box (i := 2) rfl)
  go_region_held3 (fun w' => w'.cell? ⟨w.heap.size + 1, 0, none⟩ = some (.bool sy) ∧ w'.cell? ⟨w.heap.size + 1, 1, none⟩ = some (.slice ay (nl ny) cy) ∧ w'.cell? ⟨w.heap.size + 1, 2, none⟩ = some (.slice bY (nl dy) ky) ∧ w'.cell? ⟨w.heap.size, 0, none⟩ = some (.bool sx) ∧ w'.cell? ⟨w.heap.size, 1, none⟩ = some (.slice ax (nl nx) cx) ∧ w'.cell? ⟨w.heap.size, 2, none⟩ = some (.slice bx (nl dx) kx)) (first | exact ⟨j0, j1, j2, k0, k1, k2⟩ | go_keep)
    (first
      | (go_at_call 87; (with_reducible refine (HUy.out _ HM0.out.drew.d).mono ?_); rintro e w1 ⟨a1, c1, rfl, hd1, hb1⟩; have HM1 := Lib.hid (HM0.out.drew.call hb1); have HD1 := Lib.hid hd1; obtain ⟨j0, j1, j2⟩ := S3 (HM1.out.box (i := 1) rfl); obtain ⟨k0, k1, k2⟩ := S3 (HM1.out.box (i := 2) rfl))
      | (go_at_call 86; (with_reducible refine (HPa.out _ _ _ HM1.out.d HD1.out).mono ?_); rintro e w2 ⟨a2, c2, rfl, hd2, hb2, -⟩; have HM2 := Lib.hid (HM1.out.call hb2); have HD2 := Lib.hid hd2; obtain ⟨j0, j1, j2⟩ := S3 (HM2.out.box (i := 1) rfl); obtain ⟨k0, k1, k2⟩ := S3 (HM2.out.box (i := 2) rfl))
      | (go_at_call 87; (with_reducible refine (HUx.out _ HM2.out.d).mono ?_); rintro e w3 ⟨a3, c3, rfl, hd3, hb3⟩; have HM3 := Lib.hid (HM2.out.call hb3); have HD2 := Lib.hid (HD2.out.mono hb3); have HD3 := Lib.hid hd3; obtain ⟨j0, j1, j2⟩ := S3 (HM3.out.box (i := 1) rfl); obtain ⟨k0, k1, k2⟩ := S3 (HM3.out.box (i := 2) rfl))
      | (go_at_call 86; (with_reducible refine (HPb.out _ _ _ HM3.out.d HD3.out).mono ?_); rintro e w4 ⟨a4, c4, rfl, hd4, hb4, -⟩; have HM4 := Lib.hid (HM3.out.call hb4); have HD2 := Lib.hid (HD2.out.mono hb4); have HD4 := Lib.hid hd4; obtain ⟨j0, j1, j2⟩ := S3 (HM4.out.box (i := 1) rfl); obtain ⟨k0, k1, k2⟩ := S3 (HM4.out.box (i := 2) rfl)))
  clear HM0 HM1 HM2 HM3 HPa HPb HD1 HD3 hd1 hd2 hd3 hd4 hb1 hb2 hb3 hb4
  go_wp2_with fail
  go_region_held3 (fun w' => w'.cell? ⟨w.heap.size + 1, 0, none⟩ = some (.bool sy) ∧ w'.cell? ⟨w.heap.size + 1, 1, none⟩ = some (.slice ay (nl ny) cy) ∧ w'.cell? ⟨w.heap.size + 1, 2, none⟩ = some (.slice bY (nl dy) ky) ∧ w'.cell? ⟨w.heap.size, 0, none⟩ = some (.bool sx) ∧ w'.cell? ⟨w.heap.size, 1, none⟩ = some (.slice ax (nl nx) cx) ∧ w'.cell? ⟨w.heap.size, 2, none⟩ = some (.slice bx (nl dx) kx)) (first | exact ⟨j0, j1, j2, k0, k1, k2⟩ | go_keep)
    (first
      | (go_at_call 87; (with_reducible refine (HUx.out _ HM4.out.drew.d).mono ?_); rintro e w5 ⟨a5, c5, rfl, hd5, hb5⟩; have HM5 := Lib.hid (HM4.out.drew.call hb5); have HD2 := Lib.hid (HD2.out.drew.mono hb5); have HD4 := Lib.hid (HD4.out.drew.mono hb5); have HD5 := Lib.hid hd5; obtain ⟨j0, j1, j2⟩ := S3 (HM5.out.box (i := 1) rfl); obtain ⟨k0, k1, k2⟩ := S3 (HM5.out.box (i := 2) rfl))
      | (go_at_call 87; (with_reducible refine (HUy.out _ HM5.out.d).mono ?_); rintro e w6 ⟨a6, c6, rfl, hd6, hb6⟩; have HM6 := Lib.hid (HM5.out.call hb6); have HD2 := Lib.hid (HD2.out.mono hb6); have HD4 := Lib.hid (HD4.out.mono hb6); have HD5 := Lib.hid (HD5.out.mono hb6); have HD6 := Lib.hid hd6; obtain ⟨j0, j1, j2⟩ := S3 (HM6.out.box (i := 1) rfl); obtain ⟨k0, k1, k2⟩ := S3 (HM6.out.box (i := 2) rfl))
      | (go_at_call 86; (with_reducible refine (HPc.out _ _ _ _ _ HD5.out HD6.out).mono ?_); rintro e w7 ⟨a7, c7, rfl, hd7, hb7, -⟩; have HM7 := Lib.hid (HM6.out.call hb7); have HD2 := Lib.hid (HD2.out.mono hb7); have HD4 := Lib.hid (HD4.out.mono hb7); have HD7 := Lib.hid hd7; obtain ⟨j0, j1, j2⟩ := S3 (HM7.out.box (i := 1) rfl); obtain ⟨k0, k1, k2⟩ := S3 (HM7.out.box (i := 2) rfl)))
  clear HM4 HM5 HM6 HUx HUy HPc HD5 HD6 hd5 hd6 hd7 hb5 hb6 hb7
  by_cases hs : sx = sy
  · have HE := Lib.hid (HA1.out hs)
    have hsb : (sx == sy) = true := by simp [hs]
    clear HA1 HA2 HA3 hs
    go_wp2_with fail
    go_region_held3 (fun w' => w'.cell? ⟨w.heap.size + 1, 0, none⟩ = some (.bool sy) ∧ w'.cell? ⟨w.heap.size + 1, 1, none⟩ = some (.slice ay (nl ny) cy) ∧ w'.cell? ⟨w.heap.size + 1, 2, none⟩ = some (.slice bY (nl dy) ky) ∧ w'.cell? ⟨w.heap.size, 0, none⟩ = some (.bool sx) ∧ w'.cell? ⟨w.heap.size, 1, none⟩ = some (.slice ax (nl nx) cx) ∧ w'.cell? ⟨w.heap.size, 2, none⟩ = some (.slice bx (nl dx) kx)) (first | exact ⟨j0, j1, j2, k0, k1, k2⟩ | go_keep)
      (first
        | (go_at_call 88; (with_reducible refine (sum_any _ _ _ _ p1 p2 _ HD2.out.drew HD4.out.drew (by omega) (by omega)).mono ?_); rintro e w9 ⟨a9, c9, rfl, hd9, hb9, -⟩; have HM9 := Lib.hid (HM7.out.drew.call hb9); have HD7 := Lib.hid (HD7.out.drew.mono hb9); have HD9 := Lib.hid hd9; obtain ⟨j0, j1, j2⟩ := S3 (HM9.out.box (i := 1) rfl); obtain ⟨k0, k1, k2⟩ := S3 (HM9.out.box (i := 2) rfl))
        | (go_at_call 44; (with_reducible refine (HMD.out sx (p1 + p2) n3 _ _ _ _ _ HD9.out HD7.out).mono ?_); rintro e w10 ⟨v, rfl, hv, hb10⟩; have HM10 := Lib.hid (HM9.out.call hb10); have HV := Lib.hid hv; obtain ⟨a10, c10, b10, k10, rfl, _, _⟩ := hv; obtain ⟨j0, j1, j2⟩ := S3 (HM10.out.box (i := 1) rfl); obtain ⟨k0, k1, k2⟩ := S3 (HM10.out.box (i := 2) rfl); obtain ⟨r0, r1, r2⟩ := S3 (HM10.out.box (i := 0) rfl); have r3 := (HM10.out.box (i := 0) rfl).free 0; have r4 := (HM10.out.box (i := 0) rfl).free 1; have r5 := (HM10.out.box (i := 0) rfl).free 2))
    clear hd9 hb9 hb10 HD9 HM9
    generalize hXe : World.setCell (World.setCell (World.setCell w10 _ _) _ _) _ _ = X
    have hX := fill3 (HM10.out.box (i := 0) rfl) hXe
    clear hXe
    go_wp2_with fail
    exact bodyPost_ret (v := _) (results_cell Tryz.results52 _ _ _ _ rfl (box_load _ hX.box Tryz.underlying35 rfl infoR)) rfl ⟨_, rfl, by rw [HE.out]; exact HV.out.filled (HM10.out.box (i := 0) rfl) zR3_no hX, (HM10.out.d).trans (hX.below _ (by first | exact Nat.le_refl _ | omega))⟩
  · have hsb : (sx == sy) = false := by rw [beq_eq_false_iff_ne]; exact hs
    have HO := Lib.hid (order_any a2 a4 c2 c4 p1 p2 w7 HD2.out HD4.out (by omega))
    by_cases hge : p2 ≤ p1
    · have HE := Lib.hid (HA2.out hs hge)
      have g2 : (0 : Int) ≤ cmpN p1 p2 := by unfold cmpN; split; omega; split <;> omega
      have HGE := Lib.hid hge
      have n4 : nl (p1 - p2) ≤ 134217728 := Nat.le_trans (nl_mono (Nat.sub_le _ _)) (by omega)
      clear HA1 HA2 HA3 hs hge
      go_wp2_with fail
      refine HO.out.mono ?_
      rintro e w8 ⟨rfl, q, hq⟩
      have m8 := HM7.out.call (below_dn (Below.refl _ _) q)
      have m2 := HD2.out.drawn q
      have m4 := HD4.out.drawn q
      have m7 := HD7.out.drawn q
      rw [hq] at m8 m2 m4 m7
      have HM8 := Lib.hid m8
      have HD2 := Lib.hid m2
      have HD4 := Lib.hid m4
      have HD7 := Lib.hid m7
      clear m8 m2 m4 m7 hq
      obtain ⟨j0, j1, j2⟩ := S3 (HM8.out.box (i := 1) rfl)
      obtain ⟨k0, k1, k2⟩ := S3 (HM8.out.box (i := 2) rfl)
      clear HM7 HO
      go_wp2_with fail
      go_region_held3 (fun w' => w'.cell? ⟨w.heap.size + 1, 0, none⟩ = some (.bool sy) ∧ w'.cell? ⟨w.heap.size + 1, 1, none⟩ = some (.slice ay (nl ny) cy) ∧ w'.cell? ⟨w.heap.size + 1, 2, none⟩ = some (.slice bY (nl dy) ky) ∧ w'.cell? ⟨w.heap.size, 0, none⟩ = some (.bool sx) ∧ w'.cell? ⟨w.heap.size, 1, none⟩ = some (.slice ax (nl nx) cx) ∧ w'.cell? ⟨w.heap.size, 2, none⟩ = some (.slice bx (nl dx) kx)) (first | exact ⟨j0, j1, j2, k0, k1, k2⟩ | go_keep)
        (first
          | (go_at_call 89; (with_reducible refine (diff_any _ _ _ _ p1 p2 _ HD2.out.drew HD4.out.drew (by omega) HGE.out).mono ?_); rintro e w9 ⟨a9, c9, rfl, hd9, hb9, -⟩; have HM9 := Lib.hid (HM8.out.drew.call hb9); have HD7 := Lib.hid (HD7.out.drew.mono hb9); have HD9 := Lib.hid hd9; obtain ⟨j0, j1, j2⟩ := S3 (HM9.out.box (i := 1) rfl); obtain ⟨k0, k1, k2⟩ := S3 (HM9.out.box (i := 2) rfl))
          | (go_at_call 44; (with_reducible refine (HMD.out sx (p1 - p2) n4 _ _ _ _ _ HD9.out HD7.out).mono ?_); rintro e w10 ⟨v, rfl, hv, hb10⟩; have HM10 := Lib.hid (HM9.out.call hb10); have HV := Lib.hid hv; obtain ⟨a10, c10, b10, k10, rfl, _, _⟩ := hv; obtain ⟨j0, j1, j2⟩ := S3 (HM10.out.box (i := 1) rfl); obtain ⟨k0, k1, k2⟩ := S3 (HM10.out.box (i := 2) rfl); obtain ⟨r0, r1, r2⟩ := S3 (HM10.out.box (i := 0) rfl); have r3 := (HM10.out.box (i := 0) rfl).free 0; have r4 := (HM10.out.box (i := 0) rfl).free 1; have r5 := (HM10.out.box (i := 0) rfl).free 2))
      clear hd9 hb9 hb10 HD9 HM9
      generalize hXe : World.setCell (World.setCell (World.setCell w10 _ _) _ _) _ _ = X
      have hX := fill3 (HM10.out.box (i := 0) rfl) hXe
      clear hXe
      go_wp2_with fail
      exact bodyPost_ret (v := _) (results_cell Tryz.results52 _ _ _ _ rfl (box_load _ hX.box Tryz.underlying35 rfl infoR)) rfl ⟨_, rfl, by rw [HE.out]; exact HV.out.filled (HM10.out.box (i := 0) rfl) zR3_no hX, (HM10.out.d).trans (hX.below _ (by first | exact Nat.le_refl _ | omega))⟩
    · have HE := Lib.hid (HA3.out hs (by omega))
      have g2 : ¬ (0 : Int) ≤ cmpN p1 p2 := by rw [cmpN_lt (by omega)]; omega
      have HGE := Lib.hid (show p1 ≤ p2 by omega)
      have n4 : nl (p2 - p1) ≤ 134217728 := Nat.le_trans (nl_mono (Nat.sub_le _ _)) (by omega)
      clear HA1 HA2 HA3 hs hge
      go_wp2_with fail
      refine HO.out.mono ?_
      rintro e w8 ⟨rfl, q, hq⟩
      have m8 := HM7.out.call (below_dn (Below.refl _ _) q)
      have m2 := HD2.out.drawn q
      have m4 := HD4.out.drawn q
      have m7 := HD7.out.drawn q
      rw [hq] at m8 m2 m4 m7
      have HM8 := Lib.hid m8
      have HD2 := Lib.hid m2
      have HD4 := Lib.hid m4
      have HD7 := Lib.hid m7
      clear m8 m2 m4 m7 hq
      obtain ⟨j0, j1, j2⟩ := S3 (HM8.out.box (i := 1) rfl)
      obtain ⟨k0, k1, k2⟩ := S3 (HM8.out.box (i := 2) rfl)
      clear HM7 HO
      go_wp2_with fail
      go_region_held3 (fun w' => w'.cell? ⟨w.heap.size + 1, 0, none⟩ = some (.bool sy) ∧ w'.cell? ⟨w.heap.size + 1, 1, none⟩ = some (.slice ay (nl ny) cy) ∧ w'.cell? ⟨w.heap.size + 1, 2, none⟩ = some (.slice bY (nl dy) ky) ∧ w'.cell? ⟨w.heap.size, 0, none⟩ = some (.bool sx) ∧ w'.cell? ⟨w.heap.size, 1, none⟩ = some (.slice ax (nl nx) cx) ∧ w'.cell? ⟨w.heap.size, 2, none⟩ = some (.slice bx (nl dx) kx)) (first | exact ⟨j0, j1, j2, k0, k1, k2⟩ | go_keep)
        (first
          | (go_at_call 89; (with_reducible refine (diff_any _ _ _ _ p2 p1 _ HD4.out.drew HD2.out.drew (by omega) HGE.out).mono ?_); rintro e w9 ⟨a9, c9, rfl, hd9, hb9, -⟩; have HM9 := Lib.hid (HM8.out.drew.call hb9); have HD7 := Lib.hid (HD7.out.drew.mono hb9); have HD9 := Lib.hid hd9; obtain ⟨j0, j1, j2⟩ := S3 (HM9.out.box (i := 1) rfl); obtain ⟨k0, k1, k2⟩ := S3 (HM9.out.box (i := 2) rfl))
          | (go_at_call 44; (with_reducible refine (HMD.out sy (p2 - p1) n4 _ _ _ _ _ HD9.out HD7.out).mono ?_); rintro e w10 ⟨v, rfl, hv, hb10⟩; have HM10 := Lib.hid (HM9.out.call hb10); have HV := Lib.hid hv; obtain ⟨a10, c10, b10, k10, rfl, _, _⟩ := hv; obtain ⟨j0, j1, j2⟩ := S3 (HM10.out.box (i := 1) rfl); obtain ⟨k0, k1, k2⟩ := S3 (HM10.out.box (i := 2) rfl); obtain ⟨r0, r1, r2⟩ := S3 (HM10.out.box (i := 0) rfl); have r3 := (HM10.out.box (i := 0) rfl).free 0; have r4 := (HM10.out.box (i := 0) rfl).free 1; have r5 := (HM10.out.box (i := 0) rfl).free 2))
      clear hd9 hb9 hb10 HD9 HM9
      generalize hXe : World.setCell (World.setCell (World.setCell w10 _ _) _ _) _ _ = X
      have hX := fill3 (HM10.out.box (i := 0) rfl) hXe
      clear hXe
      go_wp2_with fail
      exact bodyPost_ret (v := _) (results_cell Tryz.results52 _ _ _ _ rfl (box_load _ hX.box Tryz.underlying35 rfl infoR)) rfl ⟨_, rfl, by rw [HE.out]; exact HV.out.filled (HM10.out.box (i := 0) rfl) zR3_no hX, (HM10.out.d).trans (hX.below _ (by first | exact Nat.le_refl _ | omega))⟩
end R3
end Go.Proofs.YtafckcmieepmaaaGreatDoor
namespace Go.Proofs.YtafckcmieepmaaaGreatDoor
namespace R3
open Go.RowKit Go.Sort D3 Fr
theorem zero_any {w : World} {v : Value} {q : Rat} (h : RefAt w v q) : Calls Tryz.prog 31 #[v] w (GivesV w (.bool (decide (q = 0)))) := by
  obtain ⟨a, c, ab, cb, rfl, _, _⟩ := h
  have hz : (((nl (top q) : Nat) : Int) == 0) = decide (q = 0) := by
    by_cases h : q = 0
    · subst h; rfl
    · have := nl_pos (fun e => h (top_zero.1 e))
      rw [decide_eq_false h, beq_eq_false_iff_ne]; omega
  have HZ := Lib.hid hz
  clear hz
  go_enter Tryz.func31, Tryz.ntmps31
  go_wp2
  go_ret
  exact ⟨congrArg (fun b => Ending.returned (Value.bool b)) HZ.out, (Below.refl _ _).alloc (Nat.le_refl _) _⟩
theorem sign_any {w : World} {v : Value} {q : Rat} (h : RefAt w v q) : Calls Tryz.prog 14 #[v] w (GivesV w (.int .i64 (signQ q))) := by
  have h0 := h
  obtain ⟨a, c, ab, cb, rfl, _, _⟩ := h
  have hs := signQ_eq q
  have HZ := Lib.hid (fun W (hW : Below w.heap.size w W) => zero_any (h0.mono hW))
  by_cases hq : q = 0
  · have e : signQ q = 0 := by subst hq; rfl
    rw [e]
    rw [decide_eq_true hq] at HZ
    clear hs h0 e hq
    go_enter Tryz.func14, Tryz.ntmps14
    go_wp2_with fail
    refine (HZ.out _ (by go_grown)).mono ?_
    rintro e w1 ⟨rfl, hb⟩
    go_wp2
    go_ret
    exact ⟨rfl, (by go_grown : Below w.heap.size w _).trans (hb.mono (by simp))⟩
  · rw [if_neg (fun e => hq (top_zero.1 e))] at hs
    rw [decide_eq_false hq] at HZ
    have HB := Lib.hid (Box.new w 35 #[.bool (neg q), .slice a (nl (top q)) c, .slice ab (nl q.den) cb])
    have HS := Lib.hid hs
    clear hs h0 hq
    by_cases hn : neg q = true
    · rw [hn] at HS HB HZ ⊢
      go_enter Tryz.func14, Tryz.ntmps14
      go_wp2_with fail
      refine (HZ.out _ (by go_grown)).mono ?_
      rintro e w1 ⟨rfl, hb⟩
      have c0 : w1.cell? ⟨w.heap.size, 0, none⟩ = some (.bool true) := (HB.out.below hb (by simp)).at_ rfl
      go_wp2
      go_ret
      exact ⟨by rw [HS.out]; rfl, (by go_grown : Below w.heap.size w _).trans (hb.mono (by simp))⟩
    · rw [Bool.not_eq_true] at hn
      rw [hn] at HS HB HZ ⊢
      go_enter Tryz.func14, Tryz.ntmps14
      go_wp2_with fail
      refine (HZ.out _ (by go_grown)).mono ?_
      rintro e w1 ⟨rfl, hb⟩
      have c0 : w1.cell? ⟨w.heap.size, 0, none⟩ = some (.bool false) := (HB.out.below hb (by simp)).at_ rfl
      go_wp2
      go_ret
      exact ⟨by rw [HS.out]; rfl, (by go_grown : Below w.heap.size w _).trans (hb.mono (by simp))⟩
end R3
end Go.Proofs.YtafckcmieepmaaaGreatDoor
namespace Go.Proofs.YtafckcmieepmaaaGreatDoor
namespace R3
open Go.RowKit Go.Sort D3 Fr
end R3
end Go.Proofs.YtafckcmieepmaaaGreatDoor
