/- The machine: fractions of plain data, of both kinds; the reference's functions; equality of both kinds. -/
import Derived.Test.YtpchihhngpdblaaGreatDoorVmNum
import Derived.Test.YtpchihhngpdblaaGreatDoorBrief
import Derived.Test.YtpchihhngpdblaaGreatDoorRefT
import Derived.KernelRfl
namespace Go.Proofs.YtpchihhngpdblaaGreatDoor
open Go.RowKit Go.Sort Dg Fr
theorem yes_of_chk {T : VM.FT} {P : Program} {gen : FuncId → VM.Md} {call : VM.CallF} (hc : VM.COk T P gen call) {f : FuncId} {avs : List VM.AV} {vs : List Value} {w : World} {ρ : VM.Env} {s : VM.St} (H : VM.SRel T w ρ s w) (hav : VM.All2 (VM.ARel ρ) avs vs) (hK : (call f avs s).chk T.txt ρ.m VM.yesB = true) :
    Calls P f vs.toArray w fun e w' => e = .returned (.bool true) ∧ Below w.heap.size w w' := VM.yes_of hc H hav (VM.Tree.chk_ok (fun _ _ h => h) _ _ hK)
def sYes : List VM.AV → VM.St → VM.Tree (VM.TV × VM.St) := fun avs s => match avs with
  | [] => .leaf (.v (.c (.bl true)), s)
  | _ :: _ => .fail "yes"
theorem pos1_le {d : Int} (h : d ≤ 0) : VM.pos1 d = 1 := by unfold VM.pos1; rw [if_pos (by omega)]
theorem pos1_gt {d : Int} (h : ¬ d ≤ 0) : VM.pos1 d = d := by unfold VM.pos1; rw [if_neg (by omega)]
def R64 : List (Int × Int) := [(-9223372036854775808, 9223372036854775807), (-9223372036854775808, 9223372036854775807)]
theorem of_tree : ((num 4 4 29 [.agg [.iv .i64 0, .iv .i64 1]] (VM.stOf R64)).bind fun r => .leaf (VM.frOf r)) =
    .letB (.le (.v 1) (.l 0)) (.ifB 0 (.letQ (.int (.v 0)) (.leaf (some 0))) (.need (.ne (.v 1) (.l 0)) (.letQ (.frac (.v 0) (.v 1)) (.leaf (some 0))))) := by kernel_rfl
theorem Of_any (w : World) (n d : Int) (h0 : -9223372036854775808 ≤ n) (h1 : n ≤ 9223372036854775807) (k0 : -9223372036854775808 ≤ d) (k1 : d ≤ 9223372036854775807) (hE : Env2 w) :
    Calls Tryz.prog 29 #[.agg #[.int .i64 n, .int .i64 d]] w (fun e w' => ∃ r, e = .returned r ∧ FracAt w' r ((n : Rat) / ((VM.pos1 d : Int) : Rat)) ∧ Below w.heap.size w w') := by
  have hs : VM.SRel ft w (VM.env0 [n, d]) (VM.stOf R64) w := VM.SRel.start (T := ft) hE (rs := R64) (l := [n, d]) ⟨⟨h0, h1⟩, ⟨k0, k1⟩, trivial⟩
  have ha : VM.All2 (VM.ARel (VM.env0 [n, d])) [.agg [.iv .i64 0, .iv .i64 1]] [Value.agg #[.int .i64 n, .int .i64 d]] := ⟨⟨[.int .i64 n, .int .i64 d], rfl, ⟨n, rfl, rfl⟩, ⟨d, rfl, rfl⟩, trivial⟩, trivial⟩
  refine VM.frac_of_tree (num_ok 4 4) hs ha of_tree ?_
  intro b hb
  have hb : b = decide (d ≤ 0) := hb
  refine ⟨fun e => ?_, fun e => ?_⟩
  · have hd : d ≤ 0 := by
      have e : b = true := e
      rw [hb] at e; exact of_decide_eq_true e
    intro q hq
    have hq : q = (n : Rat) := hq
    refine ⟨0, rfl, ?_⟩
    show q = _
    rw [hq, pos1_le hd]
    show (n : Rat) = (n : Rat) / ((1 : Int) : Rat)
    rw [show ((1 : Int) : Rat) = 1 from rfl]; grind
  · have hd : ¬ d ≤ 0 := by
      have e : b = false := e
      rw [hb] at e; exact of_decide_eq_false e
    refine ⟨?_, ?_⟩
    · show (!decide (d = 0)) = true
      rw [decide_eq_false (by omega)]; rfl
    · intro q hq
      have hq : q = (n : Rat) / (d : Rat) := hq
      exact ⟨0, rfl, by show q = _; rw [hq, pos1_gt hd]⟩
theorem fits_of (k l : Nat) (n d : Int) (h1 : n.natAbs < 2 ^ k) (h2 : d.natAbs < 2 ^ l) (_k1 : 1 ≤ k) (_l1 : 1 ≤ l) (hd : 0 < d) : VM.Fits (max k l) ((n : Rat) / (d : Rat)) := by
  have e := frac_div n d
  obtain ⟨h4, h5⟩ := mkRat_le (sg (decide (n < 0) != decide (d < 0)) n.natAbs) d.natAbs (by omega)
  rw [sg_abs] at h4
  have m1 : 2 ^ k ≤ 2 ^ max k l := Nat.pow_le_pow_right (by decide) (Nat.le_max_left ..)
  have m2 : 2 ^ l ≤ 2 ^ max k l := Nat.pow_le_pow_right (by decide) (Nat.le_max_right ..)
  rw [← e]
  exact ⟨Nat.lt_of_le_of_lt h4 (by omega), Nat.lt_of_le_of_lt h5 (by omega)⟩
theorem sOk_of : VM.SOk ft Tryz.prog 29 VM.sOf := VM.sOf_ok fits_of (fun w n d h0 h1 k0 k1 hE => Of_any w n d h0 h1 k0 k1 hE)
theorem sOk_brief : VM.SOk ft Tryz.prog 25 VM.sBrief := VM.sBrief_ok (fun w g o c m l _ h1 h2 h3 h4 h5 h6 => Brief_any w g o c m l h2 h1 h3 h4 h5 h6)
theorem fitsR {k : Nat} {q : Rat} (h : VM.Fits k q) (hk : k ≤ VM.RM) : R3.SmallR q := by
  obtain ⟨a, ha⟩ : ∃ a, a = 32 := ⟨_, rfl⟩
  obtain ⟨b, hb⟩ : ∃ b, b = 3125 := ⟨_, rfl⟩
  have hk : k ≤ a * b := by subst ha hb; exact hk
  have h := Fit.mono (show Fit k q from h) hk
  have ea : (2 : Nat) ^ a = D3.B := by rw [ha]; rfl
  have e : (2 : Nat) ^ (a * b) = D3.B ^ b := by rw [Nat.pow_mul, ea]
  have hb' : b ≤ 33554432 := by omega
  exact ⟨Nat.le_trans (D3.nl_le (n := b) (by rw [← e]; exact h.1)) hb', Nat.le_trans (D3.nl_le (n := b) (by rw [← e]; exact h.2)) hb'⟩
theorem rOk_int : VM.SOk ft Tryz.prog 97 VM.rInt := VM.rInt_ok (fun _ _ h hk => Fit.int h hk) (fun w n h0 h1 => Calls.mono (R3.int_any n h0 h1 w) (fun _ _ h => h))
theorem rOk_new : VM.SOk ft Tryz.prog 98 VM.rNew := VM.rNew_ok fits_new (fun w n d h0 h1 k0 k1 hd _ => Calls.mono (R3.new_any n d h0 h1 k0 k1 hd w) (fun _ _ ⟨v, h1, h2, h3⟩ => ⟨v, h1, h2, h3⟩))
noncomputable def refTab0 : List (FuncId × (List VM.AV → VM.St → VM.Tree (VM.TV × VM.St))) := [(98, VM.rNew), (97, VM.rInt)]
theorem refTab0_ok : ∀ p ∈ refTab0, VM.SOk ft Tryz.prog p.1 p.2 := by
  intro p hp
  simp only [refTab0, List.mem_cons, List.mem_nil_iff, or_false] at hp
  rcases hp with rfl | rfl
  · exact rOk_new
  · exact rOk_int
noncomputable def ref0 (N n : Nat) : VM.CallF := VM.runF Tryz.prog (VM.look refTab0) md (fun c => VM.aDraw Tryz.prog md c) N n
theorem ref0_ok (N n : Nat) : VM.COk ft Tryz.prog md (ref0 N n) := VM.runF_ok (VM.tab_ok refTab0_ok) (fun _ h => VM.aDraw_ok h) N n
theorem ofR_tree : ((ref0 4 4 31 [.agg [.iv .i64 0, .iv .i64 1]] (VM.stOf R64)).bind fun r => .leaf (VM.frOfR r)) =
    .letB (.le (.v 1) (.l 0)) (.ifB 0 (.letQ (.int (.v 0)) (.leaf (some 0))) (.need (.ne (.v 1) (.l 0)) (.letQ (.frac (.v 0) (.v 1)) (.leaf (some 0))))) := by kernel_rfl
theorem OfR_any (w : World) (n d : Int) (h0 : -9223372036854775808 ≤ n) (h1 : n ≤ 9223372036854775807) (k0 : -9223372036854775808 ≤ d) (k1 : d ≤ 9223372036854775807) (hE : Env2 w) :
    Calls Tryz.prog 31 #[.agg #[.int .i64 n, .int .i64 d]] w (fun e w' => ∃ r, e = .returned r ∧ R3.RefAt w' r ((n : Rat) / ((VM.pos1 d : Int) : Rat)) ∧ Below w.heap.size w w') := by
  have hs : VM.SRel ft w (VM.env0 [n, d]) (VM.stOf R64) w := VM.SRel.start (T := ft) hE (rs := R64) (l := [n, d]) ⟨⟨h0, h1⟩, ⟨k0, k1⟩, trivial⟩
  have ha : VM.All2 (VM.ARel (VM.env0 [n, d])) [.agg [.iv .i64 0, .iv .i64 1]] [Value.agg #[.int .i64 n, .int .i64 d]] := ⟨⟨[.int .i64 n, .int .i64 d], rfl, ⟨n, rfl, rfl⟩, ⟨d, rfl, rfl⟩, trivial⟩, trivial⟩
  refine VM.ref_of_tree (ref0_ok 4 4) hs ha ofR_tree ?_
  intro b hb
  have hb : b = decide (d ≤ 0) := hb
  refine ⟨fun e => ?_, fun e => ?_⟩
  · have hd : d ≤ 0 := by
      have e : b = true := e
      rw [hb] at e; exact of_decide_eq_true e
    intro q hq
    have hq : q = (n : Rat) := hq
    refine ⟨0, rfl, ?_⟩
    show q = _
    rw [hq, pos1_le hd]
    show (n : Rat) = (n : Rat) / ((1 : Int) : Rat)
    rw [show ((1 : Int) : Rat) = 1 from rfl]; grind
  · have hd : ¬ d ≤ 0 := by
      have e : b = false := e
      rw [hb] at e; exact of_decide_eq_false e
    refine ⟨?_, ?_⟩
    · show (!decide (d = 0)) = true
      rw [decide_eq_false (by omega)]; rfl
    · intro q hq
      have hq : q = (n : Rat) / (d : Rat) := hq
      exact ⟨0, rfl, by show q = _; rw [hq, pos1_gt hd]⟩
noncomputable def refZ (N n : Nat) : VM.CallF := VM.runF Tryz.prog (VM.look [(68, VM.rZero), (97, VM.rInt)]) md (fun c => VM.aDraw Tryz.prog md c) N n
theorem rOk_zero : VM.SOk ft Tryz.prog 68 VM.rZero := VM.rZero_ok (fun _ _ _ hx => Calls.mono (R3.zero_any hx) (fun _ _ h => h))
theorem refZ_ok (N n : Nat) : VM.COk ft Tryz.prog md (refZ N n) := VM.runF_ok (VM.tab_ok (l := [(68, VM.rZero), (97, VM.rInt)]) (by
  intro p hp
  simp only [List.mem_cons, List.mem_nil_iff, or_false] at hp
  rcases hp with rfl | rfl
  · exact rOk_zero
  · exact rOk_int)) (fun _ h => VM.aDraw_ok h) N n
theorem call_of {T : VM.FT} {P : Program} {gen : FuncId → VM.Md} {call : VM.CallF} (hc : VM.COk T P gen call) {f : FuncId} {avs : List VM.AV} {vs : List Value} {w : World} {ρ : VM.Env} {s : VM.St} (H : VM.SRel T w ρ s w) (hav : VM.All2 (VM.ARel ρ) avs vs) {α : Type} {g : VM.TV × VM.St → α} {l : VM.Tree α} (hl : ((call f avs s).bind fun r => .leaf (g r)) = l) {R : α → VM.M → Prop} (hK : l.vc T.txt ρ.m R) :
    Calls P f vs.toArray w fun e w' => ∃ ρ' tv s' v, R (g (tv, s')) ρ'.m ∧ ρ.le ρ' ∧ VM.SRel T w ρ' s' w' ∧ VM.TRel ρ' tv v ∧ e = .returned v := by
  rw [← hl, VM.Tree.vc_bind] at hK
  refine Calls.mono (hc w ρ s w f avs vs H hav _ hK) ?_
  rintro e w' ⟨⟨ρ', tv, s', v, h1, h2, h3, h4, h5⟩, _⟩
  exact ⟨ρ', tv, s', v, h1, h2, h3, h4, h5⟩
def negOf (r : VM.TV × VM.St) : Option (Option Nat) := match r.1 with
  | .v (.agg [.bl false, .fc 0 1, .fc 0 2]) => some none
  | .v (.agg [.bv i, .fc 0 1, .fc 0 2]) => some (some i)
  | _ => none
theorem neg_run : ((refZ 4 4 70 [VM.fracOf 0] ((VM.stOf []).addF (VM.RK + VM.RM))).bind fun r => .leaf (negOf r)) =
    .letB (.neg 0) (.letB (.not 0) (.ifB 1 (.letB (.zero 0) (.letB (.not 2) (.leaf (some (some 3))))) (.leaf (some none)))) := by kernel_rfl
theorem ref_start {w : World} (hE : Env2 w) {v : Value} {q : Rat} (h : R3.RefAt w v q) (hf : VM.Fits VM.RM q) :
    ∃ ρ : VM.Env, ρ.m.Q = [q] ∧ ρ.m.B = [] ∧ VM.SRel ft w ρ ((VM.stOf []).addF (VM.RK + VM.RM)) w ∧ VM.ARel ρ (VM.fracOf 0) v ∧ ∀ t, ρ.F 0 = some t → v = .agg #[t.1, t.2.1, t.2.2] := by
  have h0 := h
  obtain ⟨a, c, b, d, rfl, _, _⟩ := h
  have H0 : VM.SRel ft w (VM.env0 []) (VM.stOf []) w := VM.SRel.start (T := ft) hE (rs := []) (l := []) trivial
  obtain ⟨_, H1⟩ := H0.pushF (Below.refl _ _) (t := (.bool (neg q), .slice a (D3.nl (top q)) c, .slice b (D3.nl q.den) d)) (k := VM.RK + VM.RM) (.ofR h0) (VM.fits_ge' hf)
  refine ⟨_, rfl, rfl, H1, ⟨[_, _, _], rfl, ⟨_, rfl, rfl⟩, ⟨_, rfl, rfl⟩, ⟨_, rfl, rfl⟩, trivial⟩, ?_⟩
  intro t ht
  cases ht
  rfl
theorem R3.ref_opp {w : World} {q : Rat} {a b : Option Addr} {c d : Nat} (h1 : R3.DigsAt w a (D3.nl (top q)) c (top q)) (h2 : R3.DigsAt w b (D3.nl q.den) d q.den) :
    R3.RefAt w (.agg #[.bool (!neg q && !decide (q = 0)), .slice a (D3.nl (top q)) c, .slice b (D3.nl q.den) d]) (-q) := by
  have e1 : top (-q) = top q := by unfold top; rw [Rat.neg_num]; omega
  have e2 : (-q).den = q.den := Rat.neg_den q
  have e3 : neg (-q) = (!neg q && !decide (q = 0)) := by
    unfold neg
    rw [Rat.neg_num]
    by_cases h : q = 0
    · subst h; rfl
    · have : q.num ≠ 0 := fun e => h (Rat.num_eq_zero.1 e)
      rw [decide_eq_false h]
      simp only [Bool.not_false, Bool.and_true]
      by_cases h2 : q.num < 0
      · rw [decide_eq_true h2, decide_eq_false (by omega)]; rfl
      · rw [decide_eq_false h2, decide_eq_true (by omega)]; rfl
  exact ⟨a, c, b, d, by rw [e1, e2, e3], by rw [e1]; exact h1, by rw [e2]; exact h2⟩
theorem R3.neg_any {w : World} {v : Value} {q : Rat} (h : R3.RefAt w v q) (hf : VM.Fits VM.RM q) (hE : Env2 w) : Calls Tryz.prog 70 #[v] w (R3.GivesR w (-q)) := by
  obtain ⟨ρ, hQ, hB, H, ha, hF⟩ := ref_start hE h hf
  have hq : ρ.m.q 0 = q := by unfold VM.M.q; rw [hQ]; rfl
  refine Calls.mono (call_of (refZ_ok 4 4) H (avs := [VM.fracOf 0]) (vs := [v]) ⟨ha, trivial⟩ neg_run (R := fun o m => ∃ o', o = some o' ∧ (match o' with
      | none => (!neg q && !decide (q = 0)) = false
      | some i => m.b i = (!neg q && !decide (q = 0)))) ?_) ?_
  · intro b0 e0 b1 e1
    have e0 : b0 = neg q := by
      rw [e0]
      show decide ((ρ.m.q 0).num < 0) = _
      rw [hq]; rfl
    have f1 : ((ρ.m.pushB b0).pushB b1).b 1 = b1 := by unfold VM.M.b VM.M.pushB; rw [hB]; rfl
    have e1 : b1 = !neg q := by
      rw [e1]
      show (!((ρ.m.pushB b0).b 0)) = _
      have : (ρ.m.pushB b0).b 0 = b0 := by unfold VM.M.b VM.M.pushB; rw [hB]; rfl
      rw [this, e0]
    refine ⟨fun hb b2 e2 b3 e3 => ⟨_, rfl, ?_⟩, fun hb => ⟨_, rfl, ?_⟩⟩
    · rw [f1, e1] at hb
      have e2 : b2 = decide (q = 0) := by
        rw [e2]
        show decide (ρ.m.q 0 = 0) = _
        rw [hq]
      have f2 : (((ρ.m.pushB b0).pushB b1).pushB b2).b 2 = b2 := by unfold VM.M.b VM.M.pushB; rw [hB]; rfl
      have e3 : b3 = !decide (q = 0) := by
        rw [e3]
        show (!((((ρ.m.pushB b0).pushB b1).pushB b2).b 2)) = _
        rw [f2, e2]
      have f3 : ((((ρ.m.pushB b0).pushB b1).pushB b2).pushB b3).b 3 = b3 := by unfold VM.M.b VM.M.pushB; rw [hB]; rfl
      show ((((ρ.m.pushB b0).pushB b1).pushB b2).pushB b3).b 3 = _
      rw [f3, e3, hb]; rfl
    · rw [f1, e1] at hb
      show (!neg q && !decide (q = 0)) = false
      rw [hb]; rfl
  rintro e w' ⟨ρ', tv, s', r, ⟨o, h1, h2⟩, h3, h4, h5, rfl⟩
  have hb := h4.h.below
  obtain ⟨a, c, b, d, hv, hd, hD⟩ := h
  obtain ⟨us, hus, u0⟩ := ha
  match us, hus, u0 with
  | [x0, x1, x2], hus, ⟨⟨t, ht, hx0⟩, ⟨t1, ht1, hx1⟩, ⟨t2, ht2, hx2⟩, _⟩ =>
    have hvt := hF t ht
    have hFt := h3.2.2.1 0 t ht
    rw [hv] at hvt
    have hvt : t = (.bool (neg q), .slice a (D3.nl (top q)) c, .slice b (D3.nl q.den) d) := by
      obtain ⟨y0, y1, y2⟩ := t
      simp at hvt
      obtain ⟨rfl, rfl, rfl⟩ := hvt
      rfl
    have fin : ∀ bb : Bool, bb = (!neg q && !decide (q = 0)) → ∀ z0 z1 z2, z0 = Value.bool bb → VM.CRel ρ' (.fc 0 1) z1 → VM.CRel ρ' (.fc 0 2) z2 → R3.RefAt w' (.agg #[z0, z1, z2]) (-q) := by
      rintro bb rfl z0 z1 z2 rfl ⟨t3, h6, rfl⟩ ⟨t4, h7, rfl⟩
      rw [hFt] at h6 h7
      cases h6; cases h7
      rw [hvt]
      exact R3.ref_opp (hd.mono hb) (hD.mono hb)
    unfold negOf at h1
    split at h1
    · rename_i he
      cases h1
      simp only at he
      subst he
      obtain ⟨zs, rfl, hz⟩ := h5
      match zs, hz with
      | [z0, z1, z2], ⟨g0, g1, g2, _⟩ => exact ⟨_, rfl, fin false h2.symm z0 z1 z2 g0 g1 g2, hb⟩
    · rename_i i he
      cases h1
      simp only at he
      subst he
      obtain ⟨zs, rfl, hz⟩ := h5
      match zs, hz with
      | [z0, z1, z2], ⟨⟨bb, hbb, g0⟩, g1, g2, _⟩ =>
        have : ρ'.m.b i = bb := by unfold VM.M.b; rw [List.getD_eq_getElem?_getD, hbb]; rfl
        exact ⟨_, rfl, fin bb (by rw [← this]; exact h2) z0 z1 z2 g0 g1 g2, hb⟩
    · cases h1
theorem rOk_of : VM.SOk ft Tryz.prog 31 VM.rOf := VM.rOf_ok fits_of (fun w n d h0 h1 k0 k1 hE => OfR_any w n d h0 h1 k0 k1 hE)
theorem rOk_add : VM.SOk ft Tryz.prog 79 (VM.r2 .add fun a b => a + b + 1) := VM.r2_ok (op := (· + ·)) (fun _ _ _ => rfl) (fun _ _ _ _ hx hy => Fit.add hx hy) (fun _ _ _ _ _ _ _ hx hy fx fy ha hb _ _ => Calls.mono (R3.add_any hx hy (fitsR fx ha) (fitsR fy hb)) (fun _ _ h => h))
theorem rOk_mul : VM.SOk ft Tryz.prog 96 (VM.r2 .mul fun a b => a + b) := VM.r2_ok (op := (· * ·)) (fun _ _ _ => rfl) (fun _ _ _ _ hx hy => Fit.mul hx hy) (fun _ _ _ _ _ _ _ hx hy fx fy ha hb _ _ => Calls.mono (R3.mul_any hx hy (fitsR fx ha) (fitsR fy hb)) (fun _ _ h => h))
theorem rOk_neg : VM.SOk ft Tryz.prog 70 (VM.r1 .neg fun a => a) := VM.r1_ok (op := fun x => -x) (fun _ _ => rfl) (fun _ _ hx => Fit.neg hx) (fun _ _ _ _ hx fx ha hE => Calls.mono (R3.neg_any hx (Fit.mono (show Fit _ _ from fx) ha) hE) (fun _ _ h => h))
def dzOf (r : VM.TV × VM.St) : Bool := match r.1 with
  | .tup [.agg [.fc 2 0, .fc 2 1, .fc 2 2], .c (.il .i64 3)] => (r.2.fit.get 2).any fun k => decide (VM.RK ≤ k)
  | _ => false
noncomputable def dzTree : VM.Tree Bool := ((refZ 4 4 148 [VM.fracOf 0, VM.fracOf 1] (((VM.stOf []).addF (VM.RK + VM.RM)).addF (VM.RK + VM.RM))).bind fun r => .leaf (dzOf r))
noncomputable def dzRest : VM.Tree Bool := match dzTree with
  | .letB _ (.ifB _ _ t) => t
  | _ => .fail "no quotient"
theorem dz_run : ((refZ 4 4 148 [VM.fracOf 0, VM.fracOf 1] (((VM.stOf []).addF (VM.RK + VM.RM)).addF (VM.RK + VM.RM))).bind fun r => .leaf (dzOf r)) =
    .letB (.zero 1) (.ifB 0 (.letQ (.int (.l 0)) (.leaf true)) dzRest) := by kernel_rfl
theorem R3.div_zero {w : World} {u v : Value} {x : Rat} (hx : R3.RefAt w u x) (hy : R3.RefAt w v 0) (hf : VM.Fits VM.RM x) (hE : Env2 w) :
    Calls Tryz.prog 148 #[u, v] w fun e w' => ∃ r, e = .returned (.tuple #[r, .int .i64 3]) ∧ R3.RefAt w' r 0 ∧ Below w.heap.size w w' := by
  obtain ⟨ρ, hQ, hB, H, ha, _⟩ := ref_start hE hx hf
  have hy0 := hy
  obtain ⟨a, c, b, d, rfl, _, _⟩ := hy
  obtain ⟨l1, H1⟩ := H.pushF (Below.refl _ _) (q := 0) (t := (.bool (neg 0), .slice a (D3.nl (top 0)) c, .slice b (D3.nl (0 : Rat).den) d)) (k := VM.RK + VM.RM) (.ofR hy0) (VM.fits_ge' ⟨by show 0 < _; exact Nat.pow_pos (by decide), Nat.one_lt_two_pow (by unfold VM.RM; decide)⟩)
  have hn : ((VM.stOf []).addF (VM.RK + VM.RM)).fit.n = 1 := rfl
  rw [hn] at l1 H1
  have hQ2 : (ρ.addF 0 1 (.bool (neg 0), .slice a (D3.nl (top 0)) c, .slice b (D3.nl (0 : Rat).den) d)).m.Q = [x, 0] := by show ρ.m.Q ++ [0] = _; rw [hQ]; rfl
  have hB2 : (ρ.addF 0 1 (.bool (neg 0), .slice a (D3.nl (top 0)) c, .slice b (D3.nl (0 : Rat).den) d)).m.B = [] := hB
  have hb2 : VM.ARel (ρ.addF 0 1 (.bool (neg 0), .slice a (D3.nl (top 0)) c, .slice b (D3.nl (0 : Rat).den) d)) (VM.fracOf 1) (.agg #[.bool (neg 0), .slice a (D3.nl (top 0)) c, .slice b (D3.nl (0 : Rat).den) d]) := ⟨[_, _, _], rfl, ⟨_, rfl, rfl⟩, ⟨_, rfl, rfl⟩, ⟨_, rfl, rfl⟩, trivial⟩
  generalize ρ.addF 0 1 (.bool (neg 0), .slice a (D3.nl (top 0)) c, .slice b (D3.nl (0 : Rat).den) d) = ρ2 at *
  refine Calls.mono (call_of (refZ_ok 4 4) H1 (avs := [VM.fracOf 0, VM.fracOf 1]) (vs := [u, _]) ⟨VM.ARel.mono l1 ha, hb2, trivial⟩ dz_run (R := fun o m => o = true ∧ m.q 2 = 0) ?_) ?_
  · intro b0 e0
    have hq : ρ2.m.q 1 = 0 := by unfold VM.M.q; rw [hQ2]; rfl
    have e0 : b0 = true := by
      rw [e0]
      show decide (ρ2.m.q 1 = 0) = true
      rw [hq]; rfl
    have f0 : (ρ2.m.pushB b0).b 0 = b0 := by unfold VM.M.b VM.M.pushB; rw [hB2]; rfl
    refine ⟨fun _ q3 e3 => ⟨rfl, ?_⟩, fun hb => ?_⟩
    · have : ((ρ2.m.pushB b0).pushQ q3).q 2 = q3 := by
        show (ρ2.m.Q ++ [q3]).getD 2 0 = q3
        rw [hQ2]; rfl
      rw [this, e3]; rfl
    · rw [f0, e0] at hb; cases hb
  rintro e w' ⟨ρ', tv, s', r, ⟨h1, h2⟩, h3, h4, h5, rfl⟩
  have hb := h4.h.below
  unfold dzOf at h1
  split at h1
  · rename_i he
    simp only at he
    subst he
    obtain ⟨rs, rfl, hr⟩ := h5
    match rs, hr with
    | [r0, r1], ⟨g0, g1, _⟩ =>
      have g1 : r1 = .int .i64 3 := g1
      subst g1
      obtain ⟨zs, rfl, hz⟩ := g0
      match zs, hz with
      | [z0, z1, z2], ⟨⟨t, e0, k0⟩, ⟨t1, e1, k1⟩, ⟨t2, e2, k2⟩, _⟩ =>
        rw [e0] at e1 e2
        cases e1; cases e2
        subst k0; subst k1; subst k2
        obtain ⟨q', k, hq, hk, hf⟩ := h4.m.frac _ t e0
        rw [VM.getQ hq] at h2
        subst h2
        have h1 : (s'.fit.get 2).any (fun k => decide (VM.RK ≤ k)) = true := h1
        rw [hk] at h1
        have h1 : VM.RK ≤ k := of_decide_eq_true h1
        obtain ⟨m, rfl⟩ : ∃ m, k = VM.RK + m := ⟨k - VM.RK, by omega⟩
        exact ⟨_, rfl, hf.fr, hb⟩
  · cases h1
theorem rOk_sign : VM.SOk ft Tryz.prog 69 VM.rSign := VM.rSign_ok (fun _ _ _ hx => Calls.mono (R3.sign_any hx) (fun _ _ h => h))
theorem fits_div (a b : Nat) (x y : Rat) (hx : VM.Fits a x) (hy : VM.Fits b y) : VM.Fits (a + b) (x / y) := by
  by_cases hb : 1 ≤ b
  · exact Fit.div hx hy hb
  · have hb : b = 0 := by omega
    subst hb
    have := hy.2
    have := y.den_pos
    omega
theorem rOk_div : VM.SOk ft Tryz.prog 148 VM.rDiv := VM.rDiv_ok fits_div
  (fun _ _ _ _ _ _ _ hx hy fx fy ha hb h0 _ => Calls.mono (R3.div_any hx hy (fitsR fx ha) (fitsR fy hb) h0) (fun _ _ ⟨v, h1, h2, h3⟩ => ⟨v, h1, h2, h3⟩))
  (fun _ _ _ _ _ hx hy fx ha hE => Calls.mono (R3.div_zero hx hy (Fit.mono (show Fit _ _ from fx) ha) hE) (fun _ _ ⟨v, h1, h2, h3⟩ => ⟨v, h1, h2, h3⟩))
theorem sOk_is : VM.SOk ft Tryz.prog 32 VM.sIs := VM.sIs_ok (fun _ _ _ _ _ _ hx hy fx fy ha hb hE => Calls.mono (Is_any hx hy (fits_small fx ha) (fitsR fy hb) hE.2) (fun _ _ h => h))
noncomputable def refTab : List (FuncId × (List VM.AV → VM.St → VM.Tree (VM.TV × VM.St))) := [
  (29, VM.sOf),
  (25, VM.sBrief),
  (32, VM.sIs),
  (31, VM.rOf),
  (97, VM.rInt),
  (98, VM.rNew),
  (79, VM.r2 .add fun a b => a + b + 1),
  (96, VM.r2 .mul fun a b => a + b),
  (148, VM.rDiv),
  (70, VM.r1 .neg fun a => a),
  (68, VM.rZero),
  (69, VM.rSign)]
theorem refTab_ok : ∀ p ∈ refTab, VM.SOk ft Tryz.prog p.1 p.2 := by
  intro p hp
  simp only [refTab, List.mem_cons, List.mem_nil_iff, or_false] at hp
  rcases hp with rfl | rfl | rfl | rfl | rfl | rfl | rfl | rfl | rfl | rfl | rfl | rfl
  · exact sOk_of
  · exact sOk_brief
  · exact sOk_is
  · exact rOk_of
  · exact rOk_int
  · exact rOk_new
  · exact rOk_add
  · exact rOk_mul
  · exact rOk_div
  · exact rOk_neg
  · exact rOk_zero
  · exact rOk_sign
end Go.Proofs.YtpchihhngpdblaaGreatDoor
