/- The machine: fractions of plain data, of both kinds; the reference's functions; equality of both kinds. -/
import Derived.Test.YtafckcmieepmaaaGreatDoorVmNum
import Derived.Test.YtafckcmieepmaaaGreatDoorBrief
import Derived.Test.YtafckcmieepmaaaGreatDoorRefT
import Derived.KernelRfl
namespace Go.Proofs.YtafckcmieepmaaaGreatDoor
open Go.RowKit Go.Sort Dg Fr
theorem yes_of_chk {T : VM.FT} {P : Program} {gen : FuncId → VM.Md} {call : VM.CallF} (hc : VM.COk T P gen call) {f : FuncId} {avs : List VM.AV} {vs : List Value} {w : World} {ρ : VM.Env} {s : VM.St} (H : VM.SRel T w ρ s w) (hav : VM.All2 (VM.ARel ρ) avs vs) (hK : (call f avs s).chk T.txt ρ.m VM.yesB = true) :
    Calls P f vs.toArray w fun e w' => e = .returned (.bool true) ∧ Below w.heap.size w w' := VM.yes_of hc H hav (VM.Tree.chk_ok (fun _ _ h => h) _ _ hK)
def sYes : List VM.AV → VM.St → VM.Tree (VM.TV × VM.St) := fun avs s => match avs with
  | [] => .leaf (.v (.c (.bl true)), s)
  | _ :: _ => .fail "yes"
theorem pos1_le {d : Int} (h : d ≤ 0) : VM.pos1 d = 1 := by unfold VM.pos1; rw [if_pos (by omega)]
theorem pos1_gt {d : Int} (h : ¬ d ≤ 0) : VM.pos1 d = d := by unfold VM.pos1; rw [if_neg (by omega)]
def R64 : List (Int × Int) := [(-9223372036854775808, 9223372036854775807), (-9223372036854775808, 9223372036854775807)]
theorem of_tree : ((num 4 4 9 [.agg [.iv .i64 0, .iv .i64 1]] (VM.stOf R64)).bind fun r => .leaf (VM.frOf r)) =
    .letB (.le (.v 1) (.l 0)) (.ifB 0 (.letQ (.int (.v 0)) (.leaf (some 0))) (.need (.ne (.v 1) (.l 0)) (.letQ (.frac (.v 0) (.v 1)) (.leaf (some 0))))) := by kernel_rfl
theorem Of_any (w : World) (n d : Int) (h0 : -9223372036854775808 ≤ n) (h1 : n ≤ 9223372036854775807) (k0 : -9223372036854775808 ≤ d) (k1 : d ≤ 9223372036854775807) (hE : Env2 w) :
    Calls Tryz.prog 9 #[.agg #[.int .i64 n, .int .i64 d]] w (fun e w' => ∃ r, e = .returned r ∧ FracAt w' r ((n : Rat) / ((VM.pos1 d : Int) : Rat)) ∧ Below w.heap.size w w') := by
  have hs : VM.SRel ft w (VM.env0 [n, d]) (VM.stOf R64) w := VM.SRel.start (T := ft) hE (rs := R64) (l := [n, d]) ⟨⟨h0, h1⟩, ⟨k0, k1⟩, trivial⟩
  have ha : VM.All2 (VM.ARel (VM.env0 [n, d])) [.agg [.iv .i64 0, .iv .i64 1]] [Value.agg #[.int .i64 n, .int .i64 d]] := ⟨⟨[.int .i64 n, .int .i64 d], rfl, ⟨n, rfl, rfl⟩, ⟨d, rfl, rfl⟩, trivial⟩, trivial⟩
  refine VM.frac_of_tree (num_ok 4 4) hs ha of_tree ?_
  intro b hb
  have hb : b = decide (d ≤ 0) := hb
  refine ⟨fun e => ?_, fun e => ?_⟩
  · have hd : d ≤ 0 := by
      have e : b = true := e
      rw [hb] at e; exact of_decide_eq_true e
    intro q hq
    have hq : q = (n : Rat) := hq
    refine ⟨0, rfl, ?_⟩
    show q = _
    rw [hq, pos1_le hd]
    show (n : Rat) = (n : Rat) / ((1 : Int) : Rat)
    rw [show ((1 : Int) : Rat) = 1 from rfl]; grind
  · have hd : ¬ d ≤ 0 := by
      have e : b = false := e
      rw [hb] at e; exact of_decide_eq_false e
    refine ⟨?_, ?_⟩
    · show (!decide (d = 0)) = true
      rw [decide_eq_false (by omega)]; rfl
    · intro q hq
      have hq : q = (n : Rat) / (d : Rat) := hq
      exact ⟨0, rfl, by show q = _; rw [hq, pos1_gt hd]⟩
theorem fits_of (k l : Nat) (n d : Int) (h1 : n.natAbs < 2 ^ k) (h2 : d.natAbs < 2 ^ l) (_k1 : 1 ≤ k) (_l1 : 1 ≤ l) (hd : 0 < d) : VM.Fits (max k l) ((n : Rat) / (d : Rat)) := by
  have e := frac_div n d
  obtain ⟨h4, h5⟩ := mkRat_le (sg (decide (n < 0) != decide (d < 0)) n.natAbs) d.natAbs (by omega)
  rw [sg_abs] at h4
  have m1 : 2 ^ k ≤ 2 ^ max k l := Nat.pow_le_pow_right (by decide) (Nat.le_max_left ..)
  have m2 : 2 ^ l ≤ 2 ^ max k l := Nat.pow_le_pow_right (by decide) (Nat.le_max_right ..)
  rw [← e]
  exact ⟨Nat.lt_of_le_of_lt h4 (by omega), Nat.lt_of_le_of_lt h5 (by omega)⟩
theorem sOk_of : VM.SOk ft Tryz.prog 9 VM.sOf := VM.sOf_ok fits_of (fun w n d h0 h1 k0 k1 hE => Of_any w n d h0 h1 k0 k1 hE)
theorem fitsR {k : Nat} {q : Rat} (h : VM.Fits k q) (hk : k ≤ VM.RM) : R3.SmallR q := by
  obtain ⟨a, ha⟩ : ∃ a, a = 32 := ⟨_, rfl⟩
  obtain ⟨b, hb⟩ : ∃ b, b = 3125 := ⟨_, rfl⟩
  have hk : k ≤ a * b := by subst ha hb; exact hk
  have h := Fit.mono (show Fit k q from h) hk
  have ea : (2 : Nat) ^ a = D3.B := by rw [ha]; rfl
  have e : (2 : Nat) ^ (a * b) = D3.B ^ b := by rw [Nat.pow_mul, ea]
  have hb' : b ≤ 33554432 := by omega
  exact ⟨Nat.le_trans (D3.nl_le (n := b) (by rw [← e]; exact h.1)) hb', Nat.le_trans (D3.nl_le (n := b) (by rw [← e]; exact h.2)) hb'⟩
theorem rOk_int : VM.SOk ft Tryz.prog 22 VM.rInt := VM.rInt_ok (fun _ _ h hk => Fit.int h hk) (fun w n h0 h1 => Calls.mono (R3.int_any n h0 h1 w) (fun _ _ h => h))
theorem rOk_new : VM.SOk ft Tryz.prog 23 VM.rNew := VM.rNew_ok fits_new (fun w n d h0 h1 k0 k1 hd _ => Calls.mono (R3.new_any n d h0 h1 k0 k1 hd w) (fun _ _ ⟨v, h1, h2, h3⟩ => ⟨v, h1, h2, h3⟩))
noncomputable def refTab0 : List (FuncId × (List VM.AV → VM.St → VM.Tree (VM.TV × VM.St))) := [(23, VM.rNew), (22, VM.rInt)]
theorem refTab0_ok : ∀ p ∈ refTab0, VM.SOk ft Tryz.prog p.1 p.2 := by
  intro p hp
  simp only [refTab0, List.mem_cons, List.mem_nil_iff, or_false] at hp
  rcases hp with rfl | rfl
  · exact rOk_new
  · exact rOk_int
noncomputable def ref0 (N n : Nat) : VM.CallF := VM.runF Tryz.prog (VM.look refTab0) md (fun c => VM.aDraw Tryz.prog md c) N n
theorem ref0_ok (N n : Nat) : VM.COk ft Tryz.prog md (ref0 N n) := VM.runF_ok (VM.tab_ok refTab0_ok) (fun _ h => VM.aDraw_ok h) N n
theorem ofR_tree : ((ref0 4 4 10 [.agg [.iv .i64 0, .iv .i64 1]] (VM.stOf R64)).bind fun r => .leaf (VM.frOfR r)) =
    .letB (.le (.v 1) (.l 0)) (.ifB 0 (.letQ (.int (.v 0)) (.leaf (some 0))) (.need (.ne (.v 1) (.l 0)) (.letQ (.frac (.v 0) (.v 1)) (.leaf (some 0))))) := by kernel_rfl
theorem OfR_any (w : World) (n d : Int) (h0 : -9223372036854775808 ≤ n) (h1 : n ≤ 9223372036854775807) (k0 : -9223372036854775808 ≤ d) (k1 : d ≤ 9223372036854775807) (hE : Env2 w) :
    Calls Tryz.prog 10 #[.agg #[.int .i64 n, .int .i64 d]] w (fun e w' => ∃ r, e = .returned r ∧ R3.RefAt w' r ((n : Rat) / ((VM.pos1 d : Int) : Rat)) ∧ Below w.heap.size w w') := by
  have hs : VM.SRel ft w (VM.env0 [n, d]) (VM.stOf R64) w := VM.SRel.start (T := ft) hE (rs := R64) (l := [n, d]) ⟨⟨h0, h1⟩, ⟨k0, k1⟩, trivial⟩
  have ha : VM.All2 (VM.ARel (VM.env0 [n, d])) [.agg [.iv .i64 0, .iv .i64 1]] [Value.agg #[.int .i64 n, .int .i64 d]] := ⟨⟨[.int .i64 n, .int .i64 d], rfl, ⟨n, rfl, rfl⟩, ⟨d, rfl, rfl⟩, trivial⟩, trivial⟩
  refine VM.ref_of_tree (ref0_ok 4 4) hs ha ofR_tree ?_
  intro b hb
  have hb : b = decide (d ≤ 0) := hb
  refine ⟨fun e => ?_, fun e => ?_⟩
  · have hd : d ≤ 0 := by
      have e : b = true := e
      rw [hb] at e; exact of_decide_eq_true e
    intro q hq
    have hq : q = (n : Rat) := hq
    refine ⟨0, rfl, ?_⟩
    show q = _
    rw [hq, pos1_le hd]
    show (n : Rat) = (n : Rat) / ((1 : Int) : Rat)
    rw [show ((1 : Int) : Rat) = 1 from rfl]; grind
  · have hd : ¬ d ≤ 0 := by
      have e : b = false := e
      rw [hb] at e; exact of_decide_eq_false e
    refine ⟨?_, ?_⟩
    · show (!decide (d = 0)) = true
      rw [decide_eq_false (by omega)]; rfl
    · intro q hq
      have hq : q = (n : Rat) / (d : Rat) := hq
      exact ⟨0, rfl, by show q = _; rw [hq, pos1_gt hd]⟩
noncomputable def refZ (N n : Nat) : VM.CallF := VM.runF Tryz.prog (VM.look [(31, VM.rZero), (22, VM.rInt)]) md (fun c => VM.aDraw Tryz.prog md c) N n
theorem rOk_zero : VM.SOk ft Tryz.prog 31 VM.rZero := VM.rZero_ok (fun _ _ _ hx => Calls.mono (R3.zero_any hx) (fun _ _ h => h))
theorem refZ_ok (N n : Nat) : VM.COk ft Tryz.prog md (refZ N n) := VM.runF_ok (VM.tab_ok (l := [(31, VM.rZero), (22, VM.rInt)]) (by
  intro p hp
  simp only [List.mem_cons, List.mem_nil_iff, or_false] at hp
  rcases hp with rfl | rfl
  · exact rOk_zero
  · exact rOk_int)) (fun _ h => VM.aDraw_ok h) N n
theorem call_of {T : VM.FT} {P : Program} {gen : FuncId → VM.Md} {call : VM.CallF} (hc : VM.COk T P gen call) {f : FuncId} {avs : List VM.AV} {vs : List Value} {w : World} {ρ : VM.Env} {s : VM.St} (H : VM.SRel T w ρ s w) (hav : VM.All2 (VM.ARel ρ) avs vs) {α : Type} {g : VM.TV × VM.St → α} {l : VM.Tree α} (hl : ((call f avs s).bind fun r => .leaf (g r)) = l) {R : α → VM.M → Prop} (hK : l.vc T.txt ρ.m R) :
    Calls P f vs.toArray w fun e w' => ∃ ρ' tv s' v, R (g (tv, s')) ρ'.m ∧ ρ.le ρ' ∧ VM.SRel T w ρ' s' w' ∧ VM.TRel ρ' tv v ∧ e = .returned v := by
  rw [← hl, VM.Tree.vc_bind] at hK
  refine Calls.mono (hc w ρ s w f avs vs H hav _ hK) ?_
  rintro e w' ⟨⟨ρ', tv, s', v, h1, h2, h3, h4, h5⟩, _⟩
  exact ⟨ρ', tv, s', v, h1, h2, h3, h4, h5⟩
def negOf (r : VM.TV × VM.St) : Option (Option Nat) := match r.1 with
  | .v (.agg [.bl false, .fc 0 1, .fc 0 2]) => some none
  | .v (.agg [.bv i, .fc 0 1, .fc 0 2]) => some (some i)
  | _ => none
theorem neg_run : ((refZ 4 4 53 [VM.fracOf 0] ((VM.stOf []).addF (VM.RK + VM.RM))).bind fun r => .leaf (negOf r)) =
    .letB (.neg 0) (.letB (.not 0) (.ifB 1 (.letB (.zero 0) (.letB (.not 2) (.leaf (some (some 3))))) (.leaf (some none)))) := by kernel_rfl
theorem ref_start {w : World} (hE : Env2 w) {v : Value} {q : Rat} (h : R3.RefAt w v q) (hf : VM.Fits VM.RM q) :
    ∃ ρ : VM.Env, ρ.m.Q = [q] ∧ ρ.m.B = [] ∧ VM.SRel ft w ρ ((VM.stOf []).addF (VM.RK + VM.RM)) w ∧ VM.ARel ρ (VM.fracOf 0) v ∧ ∀ t, ρ.F 0 = some t → v = .agg #[t.1, t.2.1, t.2.2] := by
  have h0 := h
  obtain ⟨a, c, b, d, rfl, _, _⟩ := h
  have H0 : VM.SRel ft w (VM.env0 []) (VM.stOf []) w := VM.SRel.start (T := ft) hE (rs := []) (l := []) trivial
  obtain ⟨_, H1⟩ := H0.pushF (Below.refl _ _) (t := (.bool (neg q), .slice a (D3.nl (top q)) c, .slice b (D3.nl q.den) d)) (k := VM.RK + VM.RM) (.ofR h0) (VM.fits_ge' hf)
  refine ⟨_, rfl, rfl, H1, ⟨[_, _, _], rfl, ⟨_, rfl, rfl⟩, ⟨_, rfl, rfl⟩, ⟨_, rfl, rfl⟩, trivial⟩, ?_⟩
  intro t ht
  cases ht
  rfl
theorem R3.ref_opp {w : World} {q : Rat} {a b : Option Addr} {c d : Nat} (h1 : R3.DigsAt w a (D3.nl (top q)) c (top q)) (h2 : R3.DigsAt w b (D3.nl q.den) d q.den) :
    R3.RefAt w (.agg #[.bool (!neg q && !decide (q = 0)), .slice a (D3.nl (top q)) c, .slice b (D3.nl q.den) d]) (-q) := by
  have e1 : top (-q) = top q := by unfold top; rw [Rat.neg_num]; omega
  have e2 : (-q).den = q.den := Rat.neg_den q
  have e3 : neg (-q) = (!neg q && !decide (q = 0)) := by
    unfold neg
    rw [Rat.neg_num]
    by_cases h : q = 0
    · subst h; rfl
    · have : q.num ≠ 0 := fun e => h (Rat.num_eq_zero.1 e)
      rw [decide_eq_false h]
      simp only [Bool.not_false, Bool.and_true]
      by_cases h2 : q.num < 0
      · rw [decide_eq_true h2, decide_eq_false (by omega)]; rfl
      · rw [decide_eq_false h2, decide_eq_true (by omega)]; rfl
  exact ⟨a, c, b, d, by rw [e1, e2, e3], by rw [e1]; exact h1, by rw [e2]; exact h2⟩
theorem R3.neg_any {w : World} {v : Value} {q : Rat} (h : R3.RefAt w v q) (hf : VM.Fits VM.RM q) (hE : Env2 w) : Calls Tryz.prog 53 #[v] w (R3.GivesR w (-q)) := by
  obtain ⟨ρ, hQ, hB, H, ha, hF⟩ := ref_start hE h hf
  have hq : ρ.m.q 0 = q := by unfold VM.M.q; rw [hQ]; rfl
  refine Calls.mono (call_of (refZ_ok 4 4) H (avs := [VM.fracOf 0]) (vs := [v]) ⟨ha, trivial⟩ neg_run (R := fun o m => ∃ o', o = some o' ∧ (match o' with
      | none => (!neg q && !decide (q = 0)) = false
      | some i => m.b i = (!neg q && !decide (q = 0)))) ?_) ?_
  · intro b0 e0 b1 e1
    have e0 : b0 = neg q := by
      rw [e0]
      show decide ((ρ.m.q 0).num < 0) = _
      rw [hq]; rfl
    have f1 : ((ρ.m.pushB b0).pushB b1).b 1 = b1 := by unfold VM.M.b VM.M.pushB; rw [hB]; rfl
    have e1 : b1 = !neg q := by
      rw [e1]
      show (!((ρ.m.pushB b0).b 0)) = _
      have : (ρ.m.pushB b0).b 0 = b0 := by unfold VM.M.b VM.M.pushB; rw [hB]; rfl
      rw [this, e0]
    refine ⟨fun hb b2 e2 b3 e3 => ⟨_, rfl, ?_⟩, fun hb => ⟨_, rfl, ?_⟩⟩
    · rw [f1, e1] at hb
      have e2 : b2 = decide (q = 0) := by
        rw [e2]
        show decide (ρ.m.q 0 = 0) = _
        rw [hq]
      have f2 : (((ρ.m.pushB b0).pushB b1).pushB b2).b 2 = b2 := by unfold VM.M.b VM.M.pushB; rw [hB]; rfl
      have e3 : b3 = !decide (q = 0) := by
        rw [e3]
        show (!((((ρ.m.pushB b0).pushB b1).pushB b2).b 2)) = _
        rw [f2, e2]
      have f3 : ((((ρ.m.pushB b0).pushB b1).pushB b2).pushB b3).b 3 = b3 := by unfold VM.M.b VM.M.pushB; rw [hB]; rfl
      show ((((ρ.m.pushB b0).pushB b1).pushB b2).pushB b3).b 3 = _
      rw [f3, e3, hb]; rfl
    · rw [f1, e1] at hb
      show (!neg q && !decide (q = 0)) = false
      rw [hb]; rfl
  rintro e w' ⟨ρ', tv, s', r, ⟨o, h1, h2⟩, h3, h4, h5, rfl⟩
  have hb := h4.h.below
  obtain ⟨a, c, b, d, hv, hd, hD⟩ := h
  obtain ⟨us, hus, u0⟩ := ha
  match us, hus, u0 with
  | [x0, x1, x2], hus, ⟨⟨t, ht, hx0⟩, ⟨t1, ht1, hx1⟩, ⟨t2, ht2, hx2⟩, _⟩ =>
    have hvt := hF t ht
    have hFt := h3.2.2.1 0 t ht
    rw [hv] at hvt
    have hvt : t = (.bool (neg q), .slice a (D3.nl (top q)) c, .slice b (D3.nl q.den) d) := by
      obtain ⟨y0, y1, y2⟩ := t
      simp at hvt
      obtain ⟨rfl, rfl, rfl⟩ := hvt
      rfl
    have fin : ∀ bb : Bool, bb = (!neg q && !decide (q = 0)) → ∀ z0 z1 z2, z0 = Value.bool bb → VM.CRel ρ' (.fc 0 1) z1 → VM.CRel ρ' (.fc 0 2) z2 → R3.RefAt w' (.agg #[z0, z1, z2]) (-q) := by
      rintro bb rfl z0 z1 z2 rfl ⟨t3, h6, rfl⟩ ⟨t4, h7, rfl⟩
      rw [hFt] at h6 h7
      cases h6; cases h7
      rw [hvt]
      exact R3.ref_opp (hd.mono hb) (hD.mono hb)
    unfold negOf at h1
    split at h1
    · rename_i he
      cases h1
      simp only at he
      subst he
      obtain ⟨zs, rfl, hz⟩ := h5
      match zs, hz with
      | [z0, z1, z2], ⟨g0, g1, g2, _⟩ => exact ⟨_, rfl, fin false h2.symm z0 z1 z2 g0 g1 g2, hb⟩
    · rename_i i he
      cases h1
      simp only at he
      subst he
      obtain ⟨zs, rfl, hz⟩ := h5
      match zs, hz with
      | [z0, z1, z2], ⟨⟨bb, hbb, g0⟩, g1, g2, _⟩ =>
        have : ρ'.m.b i = bb := by unfold VM.M.b; rw [List.getD_eq_getElem?_getD, hbb]; rfl
        exact ⟨_, rfl, fin bb (by rw [← this]; exact h2) z0 z1 z2 g0 g1 g2, hb⟩
    · cases h1
theorem rOk_of : VM.SOk ft Tryz.prog 10 VM.rOf := VM.rOf_ok fits_of (fun w n d h0 h1 k0 k1 hE => OfR_any w n d h0 h1 k0 k1 hE)
theorem rOk_add : VM.SOk ft Tryz.prog 52 (VM.r2 .add fun a b => a + b + 1) := VM.r2_ok (op := (· + ·)) (fun _ _ _ => rfl) (fun _ _ _ _ hx hy => Fit.add hx hy) (fun _ _ _ _ _ _ _ hx hy fx fy ha hb _ _ => Calls.mono (R3.add_any hx hy (fitsR fx ha) (fitsR fy hb)) (fun _ _ h => h))
theorem rOk_neg : VM.SOk ft Tryz.prog 53 (VM.r1 .neg fun a => a) := VM.r1_ok (op := fun x => -x) (fun _ _ => rfl) (fun _ _ hx => Fit.neg hx) (fun _ _ _ _ hx fx ha hE => Calls.mono (R3.neg_any hx (Fit.mono (show Fit _ _ from fx) ha) hE) (fun _ _ h => h))
theorem rOk_sign : VM.SOk ft Tryz.prog 14 VM.rSign := VM.rSign_ok (fun _ _ _ hx => Calls.mono (R3.sign_any hx) (fun _ _ h => h))
noncomputable def refTab : List (FuncId × (List VM.AV → VM.St → VM.Tree (VM.TV × VM.St))) := [
  (9, VM.sOf),
  (10, VM.rOf),
  (22, VM.rInt),
  (23, VM.rNew),
  (52, VM.r2 .add fun a b => a + b + 1),
  (53, VM.r1 .neg fun a => a),
  (31, VM.rZero),
  (14, VM.rSign)]
theorem refTab_ok : ∀ p ∈ refTab, VM.SOk ft Tryz.prog p.1 p.2 := by
  intro p hp
  simp only [refTab, List.mem_cons, List.mem_nil_iff, or_false] at hp
  rcases hp with rfl | rfl | rfl | rfl | rfl | rfl | rfl | rfl
  · exact sOk_of
  · exact rOk_of
  · exact rOk_int
  · exact rOk_new
  · exact rOk_add
  · exact rOk_neg
  · exact rOk_zero
  · exact rOk_sign
end Go.Proofs.YtafckcmieepmaaaGreatDoor
