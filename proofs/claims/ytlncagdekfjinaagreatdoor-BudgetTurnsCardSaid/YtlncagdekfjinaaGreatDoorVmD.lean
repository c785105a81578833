/- The machine: what it knows of functions. -/
import Derived.Test.YtlncagdekfjinaaGreatDoorVmB
import Derived.KernelRfl
namespace Go.Proofs.VM
open Go.RowKit
noncomputable section
variable {T : FT} {w0 : World} {P : Program}
def withFrac (x : AV) (s : St) (k : Nat → Nat → St → Tree (TV × St)) : Tree (TV × St) :=
  match x with
  | .agg [.fc i 0, .fc j 1, .fc l 2] => if i = j ∧ i = l then (match s.fit.get i with
    | some n => if n ≤ 2432 then k i n s else .fail "large"
    | none => .fail "fit") else .fail "mixed"
  | .agg [.bl false, .nsl, .nsl] => .letQ .zero (k s.fit.n 1 (s.addF 1))
  | _ => .fail "no fraction"
def fracOf (i : Nat) : AV := .agg [.fc i 0, .fc i 1, .fc i 2]
def mkQ (s : St) (d : QD) (n : Nat) (out : AV → TV) : Tree (TV × St) :=
  if n ≤ 2432 then .letQ d (.leaf (out (fracOf s.fit.n), s.addF n)) else .fail "large"
def mkD (s : St) (d : QD) (n : Nat) (out : AV → TV) : Tree (TV × St) :=
  if n ≤ 2432 then mkQ s d n out else .letQ d (.need (.qfit s.fit.n) (.leaf (out (fracOf s.fit.n), s.addF QB)))
def bitsFrom : Nat → Nat → Nat → Option Nat
  | 0, _, _ => none
  | f + 1, k, n => if n < 2 ^ k then some k else bitsFrom f (k + 1) n
theorem bitsFrom_ok : ∀ (f k n r : Nat), bitsFrom f k n = some r → n < 2 ^ r ∧ k ≤ r
  | f + 1, k, n, r, h => by
    unfold bitsFrom at h
    split at h
    · cases h; exact ⟨by assumption, Nat.le_refl _⟩
    · have := bitsFrom_ok f (k + 1) n r h; exact ⟨this.1, by omega⟩
def bitsOf (lo hi : Int) : Option Nat := bitsFrom 80 1 (max lo.natAbs hi.natAbs)
theorem bitsOf_ok {lo hi x : Int} {r : Nat} (h : bitsOf lo hi = some r) (h0 : lo ≤ x) (h1 : x ≤ hi) : x.natAbs < 2 ^ r ∧ 1 ≤ r := by
  have := bitsFrom_ok _ _ _ _ h
  exact ⟨by omega, this.2⟩
def one (a : AV) : TV := .v a
def okTup (a : AV) : TV := .tup [a, .c (.il .i64 0)]
def sInt : List AV → St → Tree (TV × St)
  | [.c x], s => match numOf x with
    | some (.i64, a) => match rangeOf s a with
      | some (lo, hi) => if -9223372036854775808 ≤ lo ∧ hi ≤ 9223372036854775807 then (match bitsOf lo hi with
        | some n => mkQ s (.int a) n one
        | none => .fail "int") else .fail "int"
      | none => .fail "int"
    | _ => .fail "int"
  | _, _ => .fail "int"
def sNew : List AV → St → Tree (TV × St)
  | [.c x, .c y], s => match numOf x, numOf y with
    | some (.i64, a), some (.i64, b) => match rangeOf s a, rangeOf s b with
      | some (al, ah), some (bl, bh) => if -9223372036854775808 ≤ al ∧ ah ≤ 9223372036854775807 ∧ -9223372036854775808 ≤ bl ∧ bh ≤ 9223372036854775807 then (match bitsOf al ah, bitsOf bl bh with
        | some n, some k => if 0 < bl ∨ bh < 0 then mkQ s (.frac a b) (n + k) okTup else .need (.ne b (.l 0)) (mkQ s (.frac a b) (n + k) okTup)
        | _, _ => .fail "new") else .fail "new: 0"
      | _, _ => .fail "new"
    | _, _ => .fail "new"
  | _, _ => .fail "new"
def s2 (f : Nat → Nat → QD) (n : Nat → Nat → Nat) : List AV → St → Tree (TV × St)
  | [x, y], s => withFrac x s fun i a s => withFrac y s fun j b s => mkD s (f i j) (n a b) one
  | _, _ => .fail "two"
def s1 (f : Nat → QD) (n : Nat → Nat) : List AV → St → Tree (TV × St)
  | [x], s => withFrac x s fun i a s => mkQ s (f i) (n a) one
  | _, _ => .fail "one"
def sZero : List AV → St → Tree (TV × St)
  | [x], s => withFrac x s fun i _ s => mkB s (.zero i)
  | _, _ => .fail "zero"
def sSign : List AV → St → Tree (TV × St)
  | [x], s => withFrac x s fun i _ s => mkI s .i64 (.sign i) (-1) 1
  | _, _ => .fail "sign"
def sCmp : List AV → St → Tree (TV × St)
  | [x, y], s => withFrac x s fun i _ s => withFrac y s fun j _ s => mkI s .i64 (.cmp i j) (-1) 1
  | _, _ => .fail "cmp"
def sText : List AV → St → Tree (TV × St)
  | [x], s => withFrac x s fun i _ s => .letS (.txt i) (.leaf (.v (.c (.sv s.nS)), s.addS))
  | _, _ => .fail "text"
def sDiv : List AV → St → Tree (TV × St)
  | [x, y], s => withFrac x s fun i a s => withFrac y s fun j b s => .letB (.zero j) (.ifB s.nB (.leaf (.tup [.agg [.bl false, .nsl, .nsl], .c (.il .i64 3)], s.addB)) (mkD s.addB (.div i j) (a + b) okTup))
  | _, _ => .fail "div"
def sInv : List AV → St → Tree (TV × St)
  | [x], s => withFrac x s fun i a s => .letB (.zero i) (.ifB s.nB (.fail "inverse of 0") (mkQ s.addB (.inv i) a one))
  | _, _ => .fail "inverse"
def SOk (T : FT) (P : Program) (f : FuncId) (r : List AV → St → Tree (TV × St)) : Prop := ∀ (w0 : World) (ρ : Env) (s : St) (w : World) (avs : List AV) (vs : List Value), SRel T w0 ρ s w → All2 (ARel ρ) avs vs → ∀ K, (r avs s).vc T.txt ρ.m K → Calls P f vs.toArray w (fun e w' => Got T w0 ρ K e w' ∧ Below w.heap.size w w')
theorem getQ {m : M} {i : Nat} {q : Rat} (h : m.Q[i]? = some q) : m.q i = q := by unfold M.q; rw [List.getD_eq_getElem?_getD, h]; rfl
theorem withFrac_ok {ρ : Env} {s : St} {w : World} (H : SRel T w0 ρ s w) {x : AV} {v : Value} (hx : ARel ρ x v) {k : Nat → Nat → St → Tree (TV × St)} {K : TV × St → M → Prop} (hK : (withFrac x s k).vc T.txt ρ.m K) :
    ∃ ρ' s' i n q, (k i n s').vc T.txt ρ'.m K ∧ ρ.le ρ' ∧ SRel T w0 ρ' s' w ∧ ρ'.m.Q[i]? = some q ∧ T.FA w v q ∧ Fits n q ∧ n ≤ 2432 := by
  unfold withFrac at hK
  split at hK
  · rename_i i j l
    split at hK
    · rename_i h
      obtain ⟨rfl, rfl⟩ := h
      split at hK
      · rename_i n hn
        split at hK
        · rename_i hle
          obtain ⟨vs, rfl, h⟩ := hx
          match vs, h with
          | [v0, v1, v2], ⟨⟨t, e0, h0⟩, ⟨t1, e1, h1⟩, ⟨t2, e2, h2⟩, _⟩ =>
            rw [e0] at e1 e2
            cases e1; cases e2
            subst h0; subst h1; subst h2
            obtain ⟨q, n', hq, hn', hf⟩ := H.m.frac i t e0
            rw [hn] at hn'; cases hn'
            exact ⟨ρ, s, i, n, q, hK, .refl _, H, hq, hf.fa hle, fits_lt (H.m.fit i n q hn hq) hle, hle⟩
        · exact hK.elim
      · exact hK.elim
    · exact hK.elim
  · obtain ⟨vs, rfl, h⟩ := hx
    match vs, h with
    | [v0, v1, v2], ⟨h0, h1, h2, _⟩ =>
      have h0 : v0 = .bool false := h0
      have h1 : v1 = .slice none 0 0 := h1
      have h2 : v2 = .slice none 0 0 := h2
      subst h0; subst h1; subst h2
      have hz := T.zero w
      obtain ⟨h1, h2⟩ := H.pushF (Below.refl _ _) (q := 0) (t := (.bool false, .slice none 0 0, .slice none 0 0)) (k := 1) (.of hz (by decide)) (fits_lt' ⟨by decide, by decide⟩ (by decide))
      refine ⟨_, _, s.fit.n, 1, 0, hK 0 rfl, h1, h2, ?_, hz, ⟨by decide, by decide⟩, by decide⟩
      show (ρ.m.Q ++ [0])[s.fit.n]? = some 0
      rw [← H.m.nQ]; simp
  · exact hK.elim
theorem mkQ_ok {ρ : Env} {s : St} {w w' : World} (H : SRel T w0 ρ s w) (hb : Below w.heap.size w w') {d : QD} {n : Nat} {out : AV → TV} {K : TV × St → M → Prop} (hK : (mkQ s d n out).vc T.txt ρ.m K) {r : Value} {q : Rat} (hq : q = d.ev ρ.m) (hr : T.FA w' r q) (hn : Fits n q) :
    ∃ ρ' s', K (out (fracOf s.fit.n), s') ρ'.m ∧ ρ.le ρ' ∧ SRel T w0 ρ' s' w' ∧ ARel ρ' (fracOf s.fit.n) r := by
  unfold mkQ at hK
  split at hK
  · rename_i hle
    obtain ⟨b, a, k, c, a', k', c', rfl⟩ := T.cells hr
    obtain ⟨h1, h2⟩ := H.pushF hb (t := (.bool b, .slice a k c, .slice a' k' c')) (.of hr hle) (fits_lt' hn hle)
    refine ⟨ρ.addF q s.fit.n (.bool b, .slice a k c, .slice a' k' c'), _, hK q hq, h1, h2, [.bool b, .slice a k c, .slice a' k' c'], rfl, ?_, ?_, ?_, trivial⟩
    · exact ⟨(.bool b, .slice a k c, .slice a' k' c'), by simp [Env.addF], rfl⟩
    · exact ⟨(.bool b, .slice a k c, .slice a' k' c'), by simp [Env.addF], rfl⟩
    · exact ⟨(.bool b, .slice a k c, .slice a' k' c'), by simp [Env.addF], rfl⟩
  · exact hK.elim
theorem fits_up {n k : Nat} {q : Rat} (h : Fits n q) (hk : n ≤ k) : Fits k q := ⟨Nat.lt_of_lt_of_le h.1 (Nat.pow_le_pow_right (by decide) hk), Nat.lt_of_lt_of_le h.2 (Nat.pow_le_pow_right (by decide) hk)⟩
theorem qfit_fits {m : M} {p : Nat} {q : Rat} (h : (BD.qfit p).ev m = true) (e : m.Q[p]? = some q) : Fits QB q := by
  have e' : m.q p = q := by unfold M.q; rw [List.getD_eq_getElem?_getD, e]; rfl
  simp only [BD.ev, e', Bool.and_eq_true, decide_eq_true_eq] at h
  exact h
theorem mkD_fit {ρ : Env} {s : St} {w : World} (H : SRel T w0 ρ s w) {d : QD} {n : Nat} {out : AV → TV} {K : TV × St → M → Prop} (hK : (mkD s d n out).vc T.txt ρ.m K) (hn : Fits n (d.ev ρ.m)) : Fits QB (d.ev ρ.m) := by
  unfold mkD at hK
  split at hK
  · rename_i hle; exact fits_up hn hle
  · refine qfit_fits (hK _ rfl).1 ?_
    show (ρ.m.Q ++ [d.ev ρ.m])[s.fit.n]? = _
    rw [← H.m.nQ]; simp
theorem mkD_ok {ρ : Env} {s : St} {w w' : World} (H : SRel T w0 ρ s w) (hb : Below w.heap.size w w') {d : QD} {n : Nat} {out : AV → TV} {K : TV × St → M → Prop} (hK : (mkD s d n out).vc T.txt ρ.m K) {r : Value} {q : Rat} (hq : q = d.ev ρ.m) (hr : T.FA w' r q) (hn : Fits n q) :
    ∃ ρ' s', K (out (fracOf s.fit.n), s') ρ'.m ∧ ρ.le ρ' ∧ SRel T w0 ρ' s' w' ∧ ARel ρ' (fracOf s.fit.n) r := by
  have hf := mkD_fit H hK (hq ▸ hn)
  unfold mkD at hK
  split at hK
  · exact mkQ_ok H hb hK hq hr hn
  · refine mkQ_ok H hb (d := d) (n := QB) ?_ hq hr (hq ▸ hf)
    unfold mkQ
    rw [if_pos (show QB ≤ 2432 from Nat.le_refl _)]
    exact fun n hn => (hK n hn).2
theorem okTup_rel {ρ : Env} {a : AV} {v : Value} (h : ARel ρ a v) : TRel ρ (okTup a) (.tuple #[v, .int .i64 0]) := ⟨[v, .int .i64 0], rfl, h, rfl, trivial⟩
theorem le_q {ρ ρ' : Env} (h : ρ.le ρ') {i : Nat} {q : Rat} (e : ρ.m.Q[i]? = some q) : ρ'.m.Q[i]? = some q := h.1.2.2.2 _ _ e
theorem s2_ok {f : FuncId} {d : Nat → Nat → QD} {n : Nat → Nat → Nat} {op : Rat → Rat → Rat} (hd : ∀ m i j, (d i j).ev m = op (m.q i) (m.q j)) (hn : ∀ a b x y, Fits a x → Fits b y → Fits (n a b) (op x y))
    (hc : ∀ w u v x y a b, T.FA w u x → T.FA w v y → Fits a x → Fits b y → a ≤ 2432 → b ≤ 2432 → Fits QB (op x y) → T.E w → Calls P f #[u, v] w (fun e w' => ∃ r, e = .returned r ∧ T.FA w' r (op x y) ∧ Below w.heap.size w w')) : SOk T P f (s2 d n) := by
  intro w0 ρ s w avs vs H hav K hK
  match avs, vs, hav, hK with
  | [x, y], [u, v], ⟨hx, hy, _⟩, hK =>
    have hK : (withFrac x s fun i a s => withFrac y s fun j b s => mkD s (d i j) (n a b) one).vc T.txt ρ.m K := hK
    obtain ⟨ρ1, t1, i, a, qx, hK, l1, H1, q1, f1, b1, c1⟩ := withFrac_ok H hx hK
    obtain ⟨ρ2, t2, j, b, qy, hK, l2, H2, q2, f2, b2, c2⟩ := withFrac_ok H1 (ARel.mono l1 hy) hK
    have e0 : (d i j).ev ρ2.m = op qx qy := by rw [hd, show ρ2.m.q i = qx from getQ (le_q l2 q1), show ρ2.m.q j = qy from getQ q2]
    have hnb : Fits QB (op qx qy) := e0 ▸ mkD_fit H2 hK (by rw [e0]; exact hn _ _ _ _ b1 b2)
    refine Calls.mono (hc w u v qx qy a b f1 f2 b1 b2 c1 c2 hnb H.env) ?_
    rintro e w' ⟨r, rfl, hr, hb⟩
    obtain ⟨ρ', s', k1, k2, k3, k4⟩ := mkD_ok H2 hb hK e0.symm hr (hn _ _ _ _ b1 b2)
    exact ⟨⟨ρ', _, s', r, k1, (l1.trans l2).trans k2, k3, k4, rfl⟩, hb⟩
  | [], _, _, hK => exact hK.elim
  | [_], _, _, hK => exact hK.elim
  | _ :: _ :: _ :: _, _, _, hK => exact hK.elim
theorem s1_ok {f : FuncId} {d : Nat → QD} {n : Nat → Nat} {op : Rat → Rat} (hd : ∀ m i, (d i).ev m = op (m.q i)) (hn : ∀ a x, Fits a x → Fits (n a) (op x))
    (hc : ∀ w u x a, T.FA w u x → Fits a x → a ≤ 2432 → T.E w → Calls P f #[u] w (fun e w' => ∃ r, e = .returned r ∧ T.FA w' r (op x) ∧ Below w.heap.size w w')) : SOk T P f (s1 d n) := by
  intro w0 ρ s w avs vs H hav K hK
  match avs, vs, hav, hK with
  | [x], [u], ⟨hx, _⟩, hK =>
    have hK : (withFrac x s fun i a s => mkQ s (d i) (n a) one).vc T.txt ρ.m K := hK
    obtain ⟨ρ1, t1, i, a, qx, hK, l1, H1, q1, f1, b1, c1⟩ := withFrac_ok H hx hK
    refine Calls.mono (hc w u qx a f1 b1 c1 H.env) ?_
    rintro e w' ⟨r, rfl, hr, hb⟩
    obtain ⟨ρ', s', k1, k2, k3, k4⟩ := mkQ_ok H1 hb hK (by rw [hd, show ρ1.m.q i = qx from getQ q1]) hr (hn _ _ b1)
    exact ⟨⟨ρ', _, s', r, k1, l1.trans k2, k3, k4, rfl⟩, hb⟩
  | [], _, _, hK => exact hK.elim
  | _ :: _ :: _, _, _, hK => exact hK.elim
theorem mkI_end {ρ : Env} {s : St} {w w' : World} (H : SRel T w0 ρ s w) (hb : Below w.heap.size w w') {k : IntKind} {d : ID} {lo hi : Int} (h0 : lo ≤ d.ev ρ.m) (h1 : d.ev ρ.m ≤ hi) {K : TV × St → M → Prop} (hK : (mkI s k d lo hi).vc T.txt ρ.m K) : Got T w0 ρ K (.returned (.int k (d.ev ρ.m))) w' := by
  obtain ⟨ρ', tv, s', v, k1, k2, _, _, _, k3, k4, k5⟩ := mkI_ok (T := T) (w0 := w0) (P := default) H.m' h0 h1 (sem := pure (.int k (d.ev ρ.m))) (fun _ _ => rfl) K hK
  have := k5 w
  simp at this
  subst this
  exact ⟨ρ', tv, s', _, k1, k2, (k3 w H).world hb, k4, rfl⟩
theorem mkB_end {ρ : Env} {s : St} {w w' : World} (H : SRel T w0 ρ s w) (hb : Below w.heap.size w w') {d : BD} {K : TV × St → M → Prop} (hK : (mkB s d).vc T.txt ρ.m K) : Got T w0 ρ K (.returned (.bool (d.ev ρ.m))) w' := by
  obtain ⟨ρ', tv, s', v, k1, k2, _, _, _, k3, k4, k5⟩ := mkB_ok (T := T) (w0 := w0) (P := default) H.m' (d := d) (sem := pure (.bool (d.ev ρ.m))) (fun _ => rfl) K hK
  have := k5 w
  simp at this
  subst this
  exact ⟨ρ', tv, s', _, k1, k2, (k3 w H).world hb, k4, rfl⟩
theorem Got.le {ρ ρ' : Env} (h : ρ.le ρ') {K : TV × St → M → Prop} {e : Ending} {w : World} (g : Got T w0 ρ' K e w) : Got T w0 ρ K e w := by
  obtain ⟨ρ2, tv, s, v, h1, h2, h3⟩ := g
  exact ⟨ρ2, tv, s, v, h1, h.trans h2, h3⟩
theorem sZero_ok {f : FuncId} (hc : ∀ w u x, T.FA w u x → Calls P f #[u] w (fun e w' => e = .returned (.bool (decide (x = 0))) ∧ Below w.heap.size w w')) : SOk T P f sZero := by
  intro w0 ρ s w avs vs H hav K hK
  match avs, vs, hav, hK with
  | [x], [u], ⟨hx, _⟩, hK =>
    have hK : (withFrac x s fun i _ s => mkB s (.zero i)).vc T.txt ρ.m K := hK
    obtain ⟨ρ1, t1, i, a, qx, hK, l1, H1, q1, f1, b1, c1⟩ := withFrac_ok H hx hK
    refine Calls.mono (hc w u qx f1) ?_
    rintro e w' ⟨rfl, hb⟩
    have := mkB_end H1 hb hK
    simp only [BD.ev, getQ q1] at this
    exact ⟨this.le l1, hb⟩
  | [], _, _, hK => exact hK.elim
  | _ :: _ :: _, _, _, hK => exact hK.elim
theorem sgn_bd (x : Rat) : -1 ≤ sgnQ x ∧ sgnQ x ≤ 1 := by unfold sgnQ; split <;> (try split) <;> omega
theorem cmp_bd (x y : Rat) : -1 ≤ cmpR x y ∧ cmpR x y ≤ 1 := by unfold cmpR; split <;> (try split) <;> omega
theorem sSign_ok {f : FuncId} (hc : ∀ w u x, T.FA w u x → Calls P f #[u] w (fun e w' => e = .returned (.int .i64 (sgnQ x)) ∧ Below w.heap.size w w')) : SOk T P f sSign := by
  intro w0 ρ s w avs vs H hav K hK
  match avs, vs, hav, hK with
  | [x], [u], ⟨hx, _⟩, hK =>
    have hK : (withFrac x s fun i _ s => mkI s .i64 (.sign i) (-1) 1).vc T.txt ρ.m K := hK
    obtain ⟨ρ1, t1, i, a, qx, hK, l1, H1, q1, f1, b1, c1⟩ := withFrac_ok H hx hK
    refine Calls.mono (hc w u qx f1) ?_
    rintro e w' ⟨rfl, hb⟩
    have := mkI_end H1 hb (by simp only [ID.ev]; exact (sgn_bd _).1) (by simp only [ID.ev]; exact (sgn_bd _).2) hK
    simp only [ID.ev, getQ q1] at this
    exact ⟨this.le l1, hb⟩
  | [], _, _, hK => exact hK.elim
  | _ :: _ :: _, _, _, hK => exact hK.elim
theorem sCmp_ok {f : FuncId} (hc : ∀ w u v x y a b, T.FA w u x → T.FA w v y → Fits a x → Fits b y → a ≤ 2432 → b ≤ 2432 → Calls P f #[u, v] w (fun e w' => e = .returned (.int .i64 (cmpR x y)) ∧ Below w.heap.size w w')) : SOk T P f sCmp := by
  intro w0 ρ s w avs vs H hav K hK
  match avs, vs, hav, hK with
  | [x, y], [u, v], ⟨hx, hy, _⟩, hK =>
    have hK : (withFrac x s fun i _ s => withFrac y s fun j _ s => mkI s .i64 (.cmp i j) (-1) 1).vc T.txt ρ.m K := hK
    obtain ⟨ρ1, t1, i, a, qx, hK, l1, H1, q1, f1, b1, c1⟩ := withFrac_ok H hx hK
    obtain ⟨ρ2, t2, j, b, qy, hK, l2, H2, q2, f2, b2, c2⟩ := withFrac_ok H1 (ARel.mono l1 hy) hK
    refine Calls.mono (hc w u v qx qy a b f1 f2 b1 b2 c1 c2) ?_
    rintro e w' ⟨rfl, hb⟩
    have := mkI_end H2 hb (by simp only [ID.ev]; exact (cmp_bd _ _).1) (by simp only [ID.ev]; exact (cmp_bd _ _).2) hK
    simp only [ID.ev, getQ (le_q l2 q1), getQ q2] at this
    exact ⟨this.le (l1.trans l2), hb⟩
  | [], _, _, hK => exact hK.elim
  | [_], _, _, hK => exact hK.elim
  | _ :: _ :: _ :: _, _, _, hK => exact hK.elim
theorem sText_ok {f : FuncId} (hc : ∀ w u x a, T.FA w u x → Fits a x → a ≤ 2432 → T.E w → Calls P f #[u] w (fun e w' => e = .returned (.string ⟨(T.txt x).toArray⟩) ∧ Below w.heap.size w w')) : SOk T P f sText := by
  intro w0 ρ s w avs vs H hav K hK
  match avs, vs, hav, hK with
  | [x], [u], ⟨hx, _⟩, hK =>
    have hK : (withFrac x s fun i _ s => .letS (.txt i) (.leaf (.v (.c (.sv s.nS)), s.addS))).vc T.txt ρ.m K := hK
    obtain ⟨ρ1, t1, i, a, qx, hK, l1, H1, q1, f1, b1, c1⟩ := withFrac_ok H hx hK
    refine Calls.mono (hc w u qx a f1 b1 c1 H.env) ?_
    rintro e w' ⟨rfl, hb⟩
    have hK := hK _ rfl
    refine ⟨⟨ρ1.withM (ρ1.m.pushS (T.txt (ρ1.m.q i))), _, _, _, hK, l1.trans (Env.le_withM (M.le_pushS _ _)), (H1.pushS _).world hb, ⟨T.txt (ρ1.m.q i), ?_, rfl⟩, by rw [getQ q1]⟩, hb⟩
    show (ρ1.m.S ++ [T.txt (ρ1.m.q i)])[t1.nS]? = some _
    rw [← H1.m.nS]; simp
  | [], _, _, hK => exact hK.elim
  | _ :: _ :: _, _, _, hK => exact hK.elim
theorem sInt_ok {f : FuncId} (hn : ∀ (k : Nat) (n : Int), n.natAbs < 2 ^ k → 1 ≤ k → Fits k (n : Rat)) (hc : ∀ w (n : Int), -9223372036854775808 ≤ n → n ≤ 9223372036854775807 → Calls P f #[.int .i64 n] w (fun e w' => ∃ r, e = .returned r ∧ T.FA w' r (n : Rat) ∧ Below w.heap.size w w')) : SOk T P f sInt := by
  intro w0 ρ s w avs vs H hav K hK
  unfold sInt at hK
  split at hK
  · rename_i x
    match vs, hav with
    | [u], ⟨hx, _⟩ =>
      split at hK
      · rename_i a ha
        have hu := numOf_rel hx ha
        subst hu
        split at hK
        · rename_i lo hi hr
          have hb := rangeOf_ok H.m' hr
          split at hK
          · rename_i hbd
            split at hK
            · rename_i n hn2
              have h2 := bitsOf_ok hn2 hb.1 hb.2
              refine Calls.mono (hc w (a.ev ρ.m) (by omega) (by omega)) ?_
              rintro e w' ⟨r, rfl, hr, hbw⟩
              obtain ⟨ρ', s', k1, k2, k3, k4⟩ := mkQ_ok H hbw hK rfl hr (hn _ _ h2.1 h2.2)
              exact ⟨⟨ρ', _, s', r, k1, k2, k3, k4, rfl⟩, hbw⟩
            · exact hK.elim
          · exact hK.elim
        · exact hK.elim
      · exact hK.elim
  · exact hK.elim
theorem sNew_ok {f : FuncId} (hn : ∀ (k l : Nat) (n d : Int), n.natAbs < 2 ^ k → d.natAbs < 2 ^ l → 1 ≤ k → 1 ≤ l → Fits (k + l) ((n : Rat) / (d : Rat)))
    (hc : ∀ w (n d : Int), -9223372036854775808 ≤ n → n ≤ 9223372036854775807 → -9223372036854775808 ≤ d → d ≤ 9223372036854775807 → d ≠ 0 → T.E w → Calls P f #[.int .i64 n, .int .i64 d] w (fun e w' => ∃ r, e = .returned (.tuple #[r, .int .i64 0]) ∧ T.FA w' r ((n : Rat) / (d : Rat)) ∧ Below w.heap.size w w')) : SOk T P f sNew := by
  intro w0 ρ s w avs vs H hav K hK
  unfold sNew at hK
  split at hK
  · rename_i x y
    match vs, hav with
    | [u, v], ⟨hx, hy, _⟩ =>
      split at hK
      · rename_i a b ha hb
        have hu := numOf_rel hx ha
        have hv := numOf_rel hy hb
        subst hu; subst hv
        split at hK
        · rename_i al ah bl bh ra rb
          have ba := rangeOf_ok H.m' ra
          have bb := rangeOf_ok H.m' rb
          split at hK
          · rename_i hbd
            split at hK
            · rename_i n k n1 n2
              have h1 := bitsOf_ok n1 ba.1 ba.2
              have h2 := bitsOf_ok n2 bb.1 bb.2
              have key : b.ev ρ.m ≠ 0 → (mkQ s (.frac a b) (n + k) okTup).vc T.txt ρ.m K → Calls P f #[.int .i64 (a.ev ρ.m), .int .i64 (b.ev ρ.m)] w (fun e w' => Got T w0 ρ K e w' ∧ Below w.heap.size w w') := by
                intro h0 hK
                refine Calls.mono (hc w (a.ev ρ.m) (b.ev ρ.m) (by omega) (by omega) (by omega) (by omega) h0 H.env) ?_
                rintro e w' ⟨r, rfl, hr, hbw⟩
                obtain ⟨ρ', s', k1, k2, k3, k4⟩ := mkQ_ok H hbw hK rfl hr (hn _ _ _ _ h1.1 h2.1 h1.2 h2.2)
                exact ⟨⟨ρ', _, s', _, k1, k2, k3, okTup_rel k4, rfl⟩, hbw⟩
              split at hK
              · exact key (by omega) hK
              · obtain ⟨h0, hK⟩ := hK
                refine key ?_ hK
                have h0 : (!decide (b.ev ρ.m = 0)) = true := h0
                simpa using h0
            · exact hK.elim
          · exact hK.elim
        · exact hK.elim
      · exact hK.elim
  · exact hK.elim
theorem sDiv_ok {f : FuncId} (hn : ∀ a b x y, Fits a x → Fits b y → Fits (a + b) (x / y))
    (hc : ∀ w u v x y a b, T.FA w u x → T.FA w v y → Fits a x → Fits b y → a ≤ 2432 → b ≤ 2432 → y ≠ 0 → T.E w → Calls P f #[u, v] w (fun e w' => ∃ r, e = .returned (.tuple #[r, .int .i64 0]) ∧ T.FA w' r (x / y) ∧ Below w.heap.size w w'))
    (hz : ∀ w u v x, T.FA w u x → T.FA w v 0 → Calls P f #[u, v] w (fun e w' => e = .returned (.tuple #[.agg #[.bool false, .slice none 0 0, .slice none 0 0], .int .i64 3]) ∧ Below w.heap.size w w')) : SOk T P f sDiv := by
  intro w0 ρ s w avs vs H hav K hK
  match avs, vs, hav, hK with
  | [x, y], [u, v], ⟨hx, hy, _⟩, hK =>
    have hK : (withFrac x s fun i a s => withFrac y s fun j b s => .letB (.zero j) (.ifB s.nB (.leaf (.tup [.agg [.bl false, .nsl, .nsl], .c (.il .i64 3)], s.addB)) (mkD s.addB (.div i j) (a + b) okTup))).vc T.txt ρ.m K := hK
    obtain ⟨ρ1, t1, i, a, qx, hK, l1, H1, q1, f1, b1, c1⟩ := withFrac_ok H hx hK
    obtain ⟨ρ2, t2, j, b, qy, hK, l2, H2, q2, f2, b2, c2⟩ := withFrac_ok H1 (ARel.mono l1 hy) hK
    have hK := hK _ rfl
    have H3 := H2.pushB ((BD.zero j).ev ρ2.m)
    have l3 : ρ2.le (ρ2.withM (ρ2.m.pushB ((BD.zero j).ev ρ2.m))) := Env.le_withM (M.le_pushB _ _)
    have hbit : (ρ2.m.pushB ((BD.zero j).ev ρ2.m)).b t2.nB = decide (qy = 0) := by
      unfold M.b M.pushB
      simp only [BD.ev, getQ q2]
      rw [← H2.m.nB]
      simp [List.getD_eq_getElem?_getD]
    by_cases h0 : qy = 0
    · have hK := hK.1 (by rw [hbit]; simpa using h0)
      subst h0
      refine Calls.mono (hz w u v qx f1 f2) ?_
      rintro e w' ⟨rfl, hb⟩
      exact ⟨⟨ρ2.withM (ρ2.m.pushB ((BD.zero j).ev ρ2.m)), .tup [.agg [.bl false, .nsl, .nsl], .c (.il .i64 3)], t2.addB, _, hK, (l1.trans l2).trans l3, H3.world hb, ⟨[.agg #[.bool false, .slice none 0 0, .slice none 0 0], .int .i64 3], rfl, ⟨[.bool false, .slice none 0 0, .slice none 0 0], rfl, rfl, rfl, rfl, trivial⟩, rfl, trivial⟩, rfl⟩, hb⟩
    · have hK := hK.2 (by rw [hbit]; simpa using h0)
      refine Calls.mono (hc w u v qx qy a b f1 f2 b1 b2 c1 c2 h0 H.env) ?_
      rintro e w' ⟨r, rfl, hr, hb⟩
      have e1 : (ρ2.withM (ρ2.m.pushB ((BD.zero j).ev ρ2.m))).m.q i = qx := getQ (le_q l3 (le_q l2 q1))
      have e2 : (ρ2.withM (ρ2.m.pushB ((BD.zero j).ev ρ2.m))).m.q j = qy := getQ (le_q l3 q2)
      obtain ⟨ρ', s', k1, k2, k3, k4⟩ := mkD_ok H3 hb hK (by simp only [QD.ev]; rw [e1, e2]) hr (hn _ _ _ _ b1 b2)
      exact ⟨⟨ρ', _, s', _, k1, ((l1.trans l2).trans l3).trans k2, k3, okTup_rel k4, rfl⟩, hb⟩
  | [], _, _, hK => exact hK.elim
  | [_], _, _, hK => exact hK.elim
  | _ :: _ :: _ :: _, _, _, hK => exact hK.elim
theorem sInv_ok {f : FuncId} (hn : ∀ a x, Fits a x → x ≠ 0 → Fits a x⁻¹)
    (hc : ∀ w u x a, T.FA w u x → Fits a x → a ≤ 2432 → x ≠ 0 → T.E w → Calls P f #[u] w (fun e w' => ∃ r, e = .returned r ∧ T.FA w' r x⁻¹ ∧ Below w.heap.size w w')) : SOk T P f sInv := by
  intro w0 ρ s w avs vs H hav K hK
  match avs, vs, hav, hK with
  | [x], [u], ⟨hx, _⟩, hK =>
    have hK : (withFrac x s fun i a s => .letB (.zero i) (.ifB s.nB (.fail "inverse of 0") (mkQ s.addB (.inv i) a one))).vc T.txt ρ.m K := hK
    obtain ⟨ρ2, t2, i, a, qx, hK, l2, H2, q2, f2, b2, c2⟩ := withFrac_ok H hx hK
    have hK := hK _ rfl
    have H3 := H2.pushB ((BD.zero i).ev ρ2.m)
    have l3 : ρ2.le (ρ2.withM (ρ2.m.pushB ((BD.zero i).ev ρ2.m))) := Env.le_withM (M.le_pushB _ _)
    have hbit : (ρ2.m.pushB ((BD.zero i).ev ρ2.m)).b t2.nB = decide (qx = 0) := by
      unfold M.b M.pushB
      simp only [BD.ev, getQ q2]
      rw [← H2.m.nB]
      simp [List.getD_eq_getElem?_getD]
    by_cases h0 : qx = 0
    · have hK := hK.1 (by rw [hbit]; simpa using h0)
      exact hK.elim
    · have hK := hK.2 (by rw [hbit]; simpa using h0)
      refine Calls.mono (hc w u qx a f2 b2 c2 h0 H.env) ?_
      rintro e w' ⟨r, rfl, hr, hb⟩
      have e2 : (ρ2.withM (ρ2.m.pushB ((BD.zero i).ev ρ2.m))).m.q i = qx := getQ (le_q l3 q2)
      obtain ⟨ρ', s', k1, k2, k3, k4⟩ := mkQ_ok H3 hb hK (by simp only [QD.ev]; rw [e2]) hr (hn _ _ b2 h0)
      exact ⟨⟨ρ', _, s', _, k1, (l2.trans l3).trans k2, k3, k4, rfl⟩, hb⟩
  | [], _, _, hK => exact hK.elim
  | _ :: _ :: _, _, _, hK => exact hK.elim
theorem tab_ok : ∀ {l : List (FuncId × (List AV → St → Tree (TV × St)))}, (∀ p ∈ l, SOk T P p.1 p.2) → SumsOk T P (look l)
  | [], _ => fun f r h => by cases h
  | (g, r0) :: l, H => fun f r h => by
    unfold look at h
    split at h
    · rename_i e; subst e; cases h; exact H (f, r0) (List.mem_cons_self ..)
    · exact tab_ok (l := l) (fun p hp => H p (List.mem_cons_of_mem _ hp)) f r h
end
end Go.Proofs.VM
namespace Go.Proofs.VM
open Go.RowKit
noncomputable section
variable {T : FT} {w0 : World} {P : Program}
def frs : List CV → Option (List (Option Nat))
  | [] => some []
  | .fc i 0 :: .fc j 1 :: .fc l 2 :: r => if i = j ∧ i = l then (frs r).map (some i :: ·) else none
  | .bl false :: .nsl :: .nsl :: r => (frs r).map (none :: ·)
  | _ => none
def fqs (m : M) (l : List (Option Nat)) : List Rat := l.map fun o => match o with
  | some i => m.q i
  | none => 0
def fks (fit : Sq Nat) : List (Option Nat) → Option (List Nat)
  | [] => some []
  | some i :: l => match fit.get i, fks fit l with
    | some k, some r => if k ≤ 2432 then some (k :: r) else none
    | _, _ => none
  | none :: l => (fks fit l).map (1 :: ·)
def Rowed (T : FT) (w : World) : List Value → List Rat → Prop
  | [], [] => True
  | a :: b :: c :: vs, q :: qs => T.FA w (.agg #[a, b, c]) q ∧ Rowed T w vs qs
  | _, _ => False
theorem frs_ok {ρ : Env} {s : St} {w : World} (H : MRel T ρ s w) : ∀ {cs : List CV} {vs : List Value} {l : List (Option Nat)} {ks : List Nat}, frs cs = some l → fks s.fit l = some ks → All2 (CRel ρ) cs vs → Rowed T w vs (fqs ρ.m l)
  | [], [], l, _, h, _, _ => by unfold frs at h; cases h; trivial
  | .fc i 0 :: .fc j 1 :: .fc k 2 :: r, a :: b :: c :: vs, l, ks, h, hk, ⟨⟨t, e0, h0⟩, ⟨t1, e1, h1⟩, ⟨t2, e2, h2⟩, h3⟩ => by
    have h5 : (if i = j ∧ i = k then (frs r).map (some i :: ·) else none) = some l := by rw [frs] at h; exact h
    clear h
    split at h5
    · rename_i he
      obtain ⟨rfl, rfl⟩ := he
      obtain ⟨l', hl, rfl⟩ := Option.map_eq_some_iff.1 h5
      rw [e0] at e1 e2
      cases e1; cases e2
      subst h0; subst h1; subst h2
      obtain ⟨q, k', hq, hk', hf⟩ := H.frac i t e0
      unfold fks at hk
      rw [hk'] at hk
      split at hk
      · rename_i k2 r2 g1 g2
        split at hk
        · rename_i hle
          cases g1
          refine ⟨?_, frs_ok H hl g2 h3⟩
          show T.FA w (.agg #[t.1, t.2.1, t.2.2]) (ρ.m.q i)
          rw [getQ hq]; exact hf.fa hle
        · cases hk
      · cases hk
    · cases h5
  | .bl false :: .nsl :: .nsl :: r, a :: b :: c :: vs, l, ks, h, hk, ⟨h0, h1, h2, h3⟩ => by
    have h : (frs r).map (none :: ·) = some l := by rw [frs] at h; exact h
    obtain ⟨l', hl, rfl⟩ := Option.map_eq_some_iff.1 h
    have h0 : a = .bool false := h0
    have h1 : b = .slice none 0 0 := h1
    have h2 : c = .slice none 0 0 := h2
    subst h0; subst h1; subst h2
    unfold fks at hk
    obtain ⟨r2, hk2, _⟩ := Option.map_eq_some_iff.1 hk
    exact ⟨T.zero w, frs_ok H hl hk2 h3⟩
termination_by cs => cs.length
theorem Rowed.at_ {w : World} : ∀ {vs : List Value} {qs : List Rat}, Rowed T w vs qs → ∀ i (hi : i < qs.length), ∃ a b c, vs[i * 3]? = some a ∧ vs[i * 3 + 1]? = some b ∧ vs[i * 3 + 2]? = some c ∧ T.FA w (.agg #[a, b, c]) qs[i]
  | [], [], _, i, hi => absurd hi (by simp)
  | a :: b :: c :: vs, q :: qs, ⟨h, _⟩, 0, _ => ⟨a, b, c, rfl, rfl, rfl, h⟩
  | a :: b :: c :: vs, q :: qs, ⟨_, h⟩, i + 1, hi => by
    obtain ⟨x, y, z, h1, h2, h3, h4⟩ := Rowed.at_ h i (by simpa using hi)
    refine ⟨x, y, z, ?_, ?_, ?_, h4⟩
    · rw [show (i + 1) * 3 = i * 3 + 1 + 1 + 1 by omega]; simpa using h1
    · rw [show (i + 1) * 3 + 1 = i * 3 + 1 + 1 + 1 + 1 by omega]; simpa using h2
    · rw [show (i + 1) * 3 + 2 = i * 3 + 2 + 1 + 1 + 1 by omega]; simpa using h3
theorem Rowed.len {w : World} : ∀ {vs : List Value} {qs : List Rat}, Rowed T w vs qs → vs.length = qs.length * 3
  | [], [], _ => rfl
  | _ :: _ :: _ :: vs, _ :: qs, ⟨_, h⟩ => by simp [Rowed.len h]; omega
theorem fks_ok {ρ : Env} {s : St} {w : World} (H : MRel T ρ s w) : ∀ {l : List (Option Nat)} {ks : List Nat}, fks s.fit l = some ks → All2 Fits ks (fqs ρ.m l)
  | [], ks, h => by unfold fks at h; cases h; trivial
  | some i :: l, ks, h => by
    unfold fks at h
    split at h
    · rename_i k r h1 h2
      split at h
      rotate_left
      · cases h
      rename_i hle
      cases h
      refine ⟨?_, fks_ok H h2⟩
      obtain ⟨q, hq⟩ : ∃ q, ρ.m.Q[i]? = some q := by
        have := Sq.get_lt h1
        exact ⟨_, List.getElem?_eq_getElem (by rw [H.nQ]; exact this)⟩
      show Fits k (ρ.m.q i)
      rw [getQ hq]; exact fits_lt (H.fit i k q h1 hq) hle
    · cases h
  | none :: l, ks, h => by
    unfold fks at h
    obtain ⟨r, h2, rfl⟩ := Option.map_eq_some_iff.1 h
    exact ⟨show Fits 1 (0 : Rat) from ⟨by decide, by decide⟩, fks_ok H h2⟩
theorem fqs_sum (m : M) : ∀ l : List (Option Nat), sumR (fqs m l) = sumR ((l.filterMap id).map m.q)
  | [] => rfl
  | some i :: l => by
    show m.q i + sumR (fqs m l) = _
    rw [fqs_sum m l]; rfl
  | none :: l => by
    show 0 + sumR (fqs m l) = _
    rw [fqs_sum m l]
    show 0 + sumR ((l.filterMap id).map m.q) = sumR ((l.filterMap id).map m.q)
    grind
def sumOf (l : List Nat) : Nat := l.foldr (· + ·) 0
def sSum1 (b off n : Nat) (s : St) : Tree (TV × St) := match look s.heap b with
  | some blk => match frs ((blk.cells.drop off).take (n * 3)) with
    | some l => if l.length = n ∧ 0 < n ∧ n ≤ 1048576 then (match fks s.fit l with
      | some ks => mkQ s (.sum (l.filterMap id)) (sumOf ks + ks.length + 1) one
      | none => .fail "sum") else .fail "sum: length"
    | none => .fail "sum: cells"
  | none => .fail "sum: block"
def sSum : List AV → St → Tree (TV × St)
  | [.c .nsl], s => mkQ s .zero 1 one
  | [.c (.sc b off n c)], s => if n ≤ c then sSum1 b off n s else .fail "sum: room"
  | [.c (.sr b off n _ _)], s => sSum1 b off n s
  | [.c (.sg b off n _)], s => sSum1 b off n s
  | _, _ => .fail "sum"
theorem BlkAt.cells {ρ : Env} {w : World} {id : Nat} {b : Blk} (h : BlkAt w0 ρ w id b) (hs : w0.heap.size ≤ w.heap.size) : ∃ g o vs, ρ.blk id = some (g, o) ∧ All2 (CRel ρ) b.cells vs ∧ (∀ j v, vs[j]? = some v → w.cell? ⟨g, o + j, none⟩ = some v) ∧ g < w.heap.size := by
  cases e : b.own with
  | true =>
    obtain ⟨g, cs, h1, h2, h3, _⟩ := h.1 e
    refine ⟨g, 0, cs.toList.take b.cells.length, h1, h3, fun j v hv => ?_, lt_of_heap h2⟩
    rw [List.getElem?_take] at hv
    split at hv
    · rw [Nat.zero_add, World.cell?, h2]
      simpa using hv
    · cases hv
  | false =>
    obtain ⟨g, o, vs, h1, h2, h3, h4⟩ := h.2 e
    exact ⟨g, o, vs, h1, h3, h2, by omega⟩
theorem sSum1_ok {f : FuncId} (hfit : ∀ ks qs, All2 Fits ks qs → Fits (sumOf ks + ks.length + 1) (sumR qs))
    (hc : ∀ w g o c (qs : List Rat) (ks : List Nat), 0 < qs.length → qs.length ≤ c → qs.length ≤ 1048576 → g < w.heap.size → (∀ i (hi : i < qs.length), ∃ v0 v1 v2, w.cell? ⟨g, o + i * 3, none⟩ = some v0 ∧ w.cell? ⟨g, o + i * 3 + 1, none⟩ = some v1 ∧ w.cell? ⟨g, o + i * 3 + 2, none⟩ = some v2 ∧ T.FA w (.agg #[v0, v1, v2]) qs[i]) → All2 Fits ks qs → sumOf ks + ks.length + 1 ≤ 2432 → T.E w →
      Calls P f #[.slice (some ⟨g, o, none⟩) qs.length c] w (fun e w' => ∃ r, e = .returned r ∧ T.FA w' r (sumR qs) ∧ Below w.heap.size w w')) {ρ : Env} {s : St} {w : World} (H : SRel T w0 ρ s w) {b off n c g' o' : Nat} (hgo : ρ.blk b = some (g', o')) (hnc : n ≤ c) {K : TV × St → M → Prop} (hK : (sSum1 b off n s).vc T.txt ρ.m K) :
    Calls P f #[.slice (some ⟨g', o' + off, none⟩) n c] w (fun e w' => Got T w0 ρ K e w' ∧ Below w.heap.size w w') := by
  unfold sSum1 at hK
  split at hK
  · rename_i blk hblk
    split at hK
    · rename_i l hl
      split at hK
      · rename_i hcond
        split at hK
        · rename_i ks hks
          obtain ⟨g, o, vs, h1, h2, h3, h4⟩ := (H.h.heap b blk hblk).cells H.h.below.size
          rw [hgo] at h1; cases h1
          have hr := frs_ok H.m hl hks ((h2.drop off).take (n * 3))
          have hf := fks_ok H.m hks
          have hlen : (fqs ρ.m l).length = n := by unfold fqs; rw [List.length_map]; exact hcond.1
          have hle : sumOf ks + ks.length + 1 ≤ 2432 := by unfold mkQ at hK; split at hK; assumption; exact hK.elim
          have hcall := hc w g' (o' + off) c (fqs ρ.m l) ks (by omega) (by omega) (by omega) h4 (fun i hi => by
            obtain ⟨v0, v1, v2, e0, e1, e2, hfa⟩ := hr.at_ i hi
            have hget : ∀ j v, ((vs.drop off).take (n * 3))[j]? = some v → w.cell? ⟨g', o' + off + j, none⟩ = some v := fun j v hv => by
              rw [List.getElem?_take] at hv
              split at hv
              · rw [List.getElem?_drop] at hv
                rw [Nat.add_assoc]; exact h3 _ _ hv
              · cases hv
            exact ⟨v0, v1, v2, hget _ _ e0, hget _ _ e1, hget _ _ e2, hfa⟩) hf hle H.env
          rw [hlen] at hcall
          refine Calls.mono hcall ?_
          rintro e w' ⟨r, rfl, hr, hb⟩
          obtain ⟨ρ', s', k1, k2, k3, k4⟩ := mkQ_ok H hb hK (by simp only [QD.ev]; exact fqs_sum ρ.m l) hr (hfit _ _ hf)
          exact ⟨⟨ρ', _, s', r, k1, k2, k3, k4, rfl⟩, hb⟩
        · exact hK.elim
      · exact hK.elim
    · exact hK.elim
  · exact hK.elim
theorem sSum_ok {f : FuncId} (hfit : ∀ ks qs, All2 Fits ks qs → Fits (sumOf ks + ks.length + 1) (sumR qs))
    (hn : ∀ w, Calls P f #[.slice none 0 0] w (fun e w' => ∃ r, e = .returned r ∧ T.FA w' r 0 ∧ Below w.heap.size w w'))
    (hc : ∀ w g o c (qs : List Rat) (ks : List Nat), 0 < qs.length → qs.length ≤ c → qs.length ≤ 1048576 → g < w.heap.size → (∀ i (hi : i < qs.length), ∃ v0 v1 v2, w.cell? ⟨g, o + i * 3, none⟩ = some v0 ∧ w.cell? ⟨g, o + i * 3 + 1, none⟩ = some v1 ∧ w.cell? ⟨g, o + i * 3 + 2, none⟩ = some v2 ∧ T.FA w (.agg #[v0, v1, v2]) qs[i]) → All2 Fits ks qs → sumOf ks + ks.length + 1 ≤ 2432 → T.E w →
      Calls P f #[.slice (some ⟨g, o, none⟩) qs.length c] w (fun e w' => ∃ r, e = .returned r ∧ T.FA w' r (sumR qs) ∧ Below w.heap.size w w')) : SOk T P f sSum := by
  intro w0 ρ s w avs vs H hav K hK
  unfold sSum at hK
  split at hK
  · match vs, hav with
    | [u], ⟨hx, _⟩ =>
      have hx : u = .slice none 0 0 := hx
      subst hx
      refine Calls.mono (hn w) ?_
      rintro e w' ⟨r, rfl, hr, hb⟩
      obtain ⟨ρ', s', k1, k2, k3, k4⟩ := mkQ_ok H hb hK (q := 0) rfl hr ⟨by decide, by decide⟩
      exact ⟨⟨ρ', _, s', r, k1, k2, k3, k4, rfl⟩, hb⟩
  · rename_i b off n c
    match vs, hav with
    | [u], ⟨hx, _⟩ =>
      obtain ⟨g', o', hgo, rfl⟩ := (hx : ∃ g o, ρ.blk b = some (g, o) ∧ u = .slice (some ⟨g, o + off, none⟩) n c)
      split at hK
      · rename_i hnc
        exact sSum1_ok hfit hc H hgo hnc hK
      · exact hK.elim
  · rename_i b off n i d
    match vs, hav with
    | [u], ⟨hx, _⟩ =>
      obtain ⟨g', o', k, hgo, _, hle, rfl⟩ := (hx : ∃ g o k, ρ.blk b = some (g, o) ∧ ρ.m.I[i]? = some k ∧ n + d ≤ k.toNat ∧ u = .slice (some ⟨g, o + off, none⟩) n (k.toNat - d))
      exact sSum1_ok hfit hc H hgo (by omega) hK
  · rename_i b off n d
    match vs, hav with
    | [u], ⟨hx, _⟩ =>
      obtain ⟨g', o', c, z, hgo, h1, h2, rfl⟩ := (hx : ∃ g o c z, ρ.blk b = some (g, o) ∧ ρ.blk (b + 1) = some (c, z) ∧ n + d ≤ c ∧ u = .slice (some ⟨g, o + off, none⟩) n (c - d))
      exact sSum1_ok hfit hc H hgo (by omega) hK
  · exact hK.elim
end
end Go.Proofs.VM
namespace Go.Proofs.VM
open Go.RowKit
noncomputable section
variable {T : FT} {w0 : World} {P : Program}
def Tree.chk {α : Type} (txt : Rat → List UInt8) : Tree α → M → (α → M → Bool) → Bool
  | .leaf x, m, K => K x m
  | .letI d t, m, K => t.chk txt (m.pushI (d.ev m)) K
  | .letB d t, m, K => t.chk txt (m.pushB (d.ev m)) K
  | .letS d t, m, K => t.chk txt (m.pushS (d.ev txt m)) K
  | .letQ d t, m, K => t.chk txt (m.pushQ (d.ev m)) K
  | .ifB i t f, m, K => match m.b i with
    | true => t.chk txt m K
    | false => f.chk txt m K
  | .need d t, m, K => d.ev m && t.chk txt m K
  | .fail _, _, _ => false
  | .both t f, m, K => t.chk txt m K && f.chk txt m K
theorem Tree.chk_ok {α : Type} {txt : Rat → List UInt8} {K : α → M → Bool} {R : α → M → Prop} (hR : ∀ x m, K x m = true → R x m) : ∀ (t : Tree α) (m : M), t.chk txt m K = true → t.vc txt m R
  | .leaf x, m, h => hR x m h
  | .letI d t, m, h => fun n e => by subst e; exact chk_ok hR t _ h
  | .letB d t, m, h => fun n e => by subst e; exact chk_ok hR t _ h
  | .letS q t, m, h => fun n e => by subst e; exact chk_ok hR t _ h
  | .letQ d t, m, h => fun n e => by subst e; exact chk_ok hR t _ h
  | .ifB i t f, m, h => by
    unfold Tree.chk at h
    refine ⟨fun e => ?_, fun e => ?_⟩
    · rw [e] at h; exact chk_ok hR t m h
    · rw [e] at h; exact chk_ok hR f m h
  | .need d t, m, h => by
    unfold Tree.chk at h
    rw [Bool.and_eq_true] at h
    exact ⟨h.1, chk_ok hR t m h.2⟩
  | .fail _, _, h => by cases h
  | .both t f, m, h => by
    unfold Tree.chk at h
    rw [Bool.and_eq_true] at h
    exact ⟨chk_ok hR t m h.1, chk_ok hR f m h.2⟩
def yesB (r : TV × St) (m : M) : Bool := match r.1 with
  | .v (.c (.bl b)) => b
  | .v (.c (.bv i)) => m.b i
  | _ => false
def Yes (r : TV × St) (m : M) : Prop := yesB r m = true
def st0 : St := ⟨.nil, 0, 0, .nil, 0, [], 0, [], []⟩
def stOf (R : List (Int × Int)) : St := { st0 with rng := Sq.ofList .nil R }
def env0 (l : List Int) : Env := ⟨⟨l, [], [], []⟩, fun _ => none, fun _ => none, fun _ => none⟩
theorem SRel.start {w : World} (hE : T.E w) {rs : List (Int × Int)} {l : List Int} (h : All2 (fun (r : Int × Int) (n : Int) => r.1 ≤ n ∧ n ≤ r.2) rs l) : SRel T w (env0 l) (stOf rs) w :=
  have hrng : ∀ (i : Nat) (lo hi n : Int), (Sq.ofList .nil rs).get i = some (lo, hi) → l[i]? = some n → lo ≤ n ∧ n ≤ hi := fun i lo hi n e1 e2 => by
    rcases Sq.get_ofList rs .nil e1 with ⟨h1, _⟩ | ⟨_, e1⟩
    · exact absurd h1 (Nat.not_lt_zero _)
    · have e1 : rs[i]? = some (lo, hi) := e1
      obtain ⟨y, hy, hr⟩ := h.get e1
      rw [hy] at e2; cases e2; exact hr
  ⟨{ nI := by
       show l.length = (Sq.ofList .nil rs).n
       rw [Sq.n_ofList, ← All2.length h]
       exact (Nat.zero_add _).symm
     nB := rfl, nS := rfl, nQ := rfl, rng := hrng, fit := fun i k q e => (nomatch e),
     frac := fun i t e => (by cases e),
     fresh := fun _ _ => rfl, freshF := fun _ _ => rfl, freshC := fun _ _ => rfl,
     cls := fun i f caps e => (nomatch (show (none : Option (FuncId × List CV)) = some (f, caps) from e)),
     oneC := fun i v e => (by cases e) },
   { below := Below.refl _ _, env := hE, heap := fun id b e => (nomatch e), inj := fun i j bi bj g hi => (nomatch hi) }, LRel.nil _ _ _⟩
theorem yes_of {gen : FuncId → Md} {call : CallF} (hc : COk T P gen call) {f : FuncId} {avs : List AV} {vs : List Value} {w : World} {ρ : Env} {s : St} (H : SRel T w ρ s w) (hav : All2 (ARel ρ) avs vs) (hK : (call f avs s).vc T.txt ρ.m Yes) :
    Calls P f vs.toArray w fun e w' => e = .returned (.bool true) ∧ Below w.heap.size w w' := by
  refine Calls.mono (hc w ρ s w f avs vs H hav Yes hK) ?_
  rintro e w' ⟨⟨ρ', tv, s', v, h1, h2, h3, h4, h5⟩, _⟩
  refine ⟨?_, h3.h.below⟩
  rw [h5]
  congr 1
  obtain ⟨t, s2⟩ := (⟨tv, s'⟩ : TV × St)
  unfold Yes yesB at h1
  split at h1
  · rename_i b e
    simp only at e
    subst e
    have h4 : v = .bool b := h4
    rw [h4, h1]
  · rename_i i e
    simp only at e
    subst e
    obtain ⟨b, hb, h4⟩ := (h4 : ∃ b, ρ'.m.B[i]? = some b ∧ v = .bool b)
    have : ρ'.m.b i = b := by unfold M.b; rw [List.getD_eq_getElem?_getD, hb]; rfl
    rw [h4, ← this, h1]
  · cases h1
inductive Lf where
  | yes | no | bit (i : Nat) | bad
def ansOf (r : TV × St) : Lf := match r.1 with
  | .v (.c (.bl true)) => .yes
  | .v (.c (.bl false)) => .no
  | .v (.c (.bv i)) => .bit i
  | _ => .bad
def Lf.ok (l : Lf) (m : M) : Prop := match l with
  | .yes => True
  | .no => False
  | .bit i => m.b i = true
  | .bad => False
def Tree.ans (t : Tree (TV × St)) : Tree Lf := t.bind fun r => .leaf (ansOf r)
theorem rat_ne {n : Int} (h : n ≠ 0) : (n : Rat) ≠ 0 := fun e => h (by
  have e1 : (n : Rat).num = (0 : Rat).num := by rw [e]
  exact e1)
end
end Go.Proofs.VM
namespace Go.Proofs.VM
open Go.RowKit
noncomputable section
variable {T : FT} {w0 : World} {P : Program}
theorem IA.keep {m : M} {a : IA} {n : Int} (h : ∀ i, a = .v i → i < m.I.length) : a.ev (m.pushI n) = a.ev m := by
  cases a with
  | l x => rfl
  | v i =>
    have := h i rfl
    show (m.I ++ [n]).getD i 0 = m.I.getD i 0
    rw [List.getD_eq_getElem?_getD, List.getD_eq_getElem?_getD, List.getElem?_append_left this]
def updAt {α : Type} (f : α → α) : List α → Nat → List α
  | [], _ => []
  | x :: l, 0 => f x :: l
  | x :: l, n + 1 => x :: updAt f l n
def Sq.upd {α : Type} (q : Sq α) (i : Nat) (f : α → α) : Sq α := match Nat.blt i q.n with
  | true => ⟨q.n, updAt f q.l (q.n - 1 - i)⟩
  | false => q
end
end Go.Proofs.VM
namespace Go.Proofs.VM
open Go.RowKit
noncomputable section
variable {T : FT} {w0 : World} {P : Program}
def LA (T : FT) (w : World) (u : Value) (X : Nat) : Prop := T.FA w (.agg #[.bool false, u, .slice none 0 0]) (natQ X)
theorem nat_natQ (X : Nat) : (natQ X).num.natAbs = X := by unfold natQ; rfl
def withLimb (x : CV) (s : St) (k : Nat → Nat → St → Tree (TV × St)) : Tree (TV × St) := match x with
  | .fc i 1 => match s.fit.get i with
    | some n => if n ≤ 2432 then .letQ (.top i) (k s.fit.n n (s.addF n)) else .fail "limbs: large"
    | none => .fail "limbs"
  | .nsl => .letQ .zero (k s.fit.n 1 (s.addF 1))
  | _ => .fail "no limbs"
theorem mkQ_le {s : St} {d : QD} {n : Nat} {out : AV → TV} {m : M} {K : TV × St → M → Prop} (hK : (mkQ s d n out).vc T.txt m K) : n ≤ 2432 := by
  unfold mkQ at hK
  split at hK
  · assumption
  · exact hK.elim
def mkS (s : St) (d : QD) (n : Nat) (out : AV → TV) : Tree (TV × St) :=
  if n ≤ 200 then mkQ s d n out else if n ≤ 2432 then .letQ d (.letB (.qsm s.fit.n) (.ifB s.nB (.leaf (out (fracOf s.fit.n), (s.addF 64).addB)) (.leaf (out (fracOf s.fit.n), (s.addF n).addB)))) else .fail "large"
theorem mkS_le {s : St} {d : QD} {n : Nat} {out : AV → TV} {m : M} {K : TV × St → M → Prop} (hK : (mkS s d n out).vc T.txt m K) : n ≤ 2432 := by
  unfold mkS at hK
  split at hK
  · exact mkQ_le hK
  · split at hK
    · assumption
    · exact hK.elim
theorem mkS_ok {ρ : Env} {s : St} {w w' : World} (H : SRel T w0 ρ s w) (hb : Below w.heap.size w w') {d : QD} {n : Nat} {out : AV → TV} {K : TV × St → M → Prop} (hK : (mkS s d n out).vc T.txt ρ.m K) {r : Value} {q : Rat} (hq : q = d.ev ρ.m) (hr : T.FA w' r q) (hn : Fits n q) :
    ∃ ρ' s', K (out (fracOf s.fit.n), s') ρ'.m ∧ ρ.le ρ' ∧ SRel T w0 ρ' s' w' ∧ ARel ρ' (fracOf s.fit.n) r := by
  unfold mkS at hK
  split at hK
  · exact mkQ_ok H hb hK hq hr hn
  · split at hK
    · rename_i hle
      have e' : (ρ.m.pushQ q).q s.fit.n = q := getQ (by show (ρ.m.Q ++ [q])[s.fit.n]? = _; rw [← H.m.nQ]; simp)
      obtain ⟨b, hbv⟩ : ∃ b, b = (BD.qsm s.fit.n).ev (ρ.m.pushQ q) := ⟨_, rfl⟩
      have hbit : ((ρ.m.pushQ q).pushB b).b s.nB = b := by
        unfold M.b M.pushB M.pushQ
        rw [← H.m.nB]
        simp [List.getD_eq_getElem?_getD]
      have hK := hK q hq b hbv
      have go : ∀ k, k ≤ 2432 → Fits k q → K (out (fracOf s.fit.n), (s.addF k).addB) ((ρ.m.pushQ q).pushB b) → ∃ ρ' s', K (out (fracOf s.fit.n), s') ρ'.m ∧ ρ.le ρ' ∧ SRel T w0 ρ' s' w' ∧ ARel ρ' (fracOf s.fit.n) r := by
        intro k hk hf hKk
        obtain ⟨ρ', s', k1, k2, k3, k4⟩ := mkQ_ok H hb (d := d) (n := k) (out := out) (K := fun x m => K (x.1, x.2.addB) (m.pushB b)) (by
          unfold mkQ
          rw [if_pos hk]
          intro v hv
          rw [← hq] at hv
          subst hv
          exact hKk) hq hr hf
        have l2 : ρ'.le (ρ'.withM (ρ'.m.pushB b)) := Env.le_withM (M.le_pushB _ _)
        exact ⟨ρ'.withM (ρ'.m.pushB b), s'.addB, k1, k2.trans l2, k3.pushB b, ARel.mono l2 k4⟩
      cases b with
      | true =>
        refine go 64 (by decide) ?_ (hK.1 hbit)
        have h := hbv.symm
        simp only [BD.ev, e', Bool.and_eq_true, decide_eq_true_eq] at h
        exact h
      | false => exact go n hle hn (hK.2 hbit)
    · exact hK.elim
theorem nat_of {m : M} {i : Nat} {X : Nat} (h : m.Q[i]? = some (natQ X)) : m.nat i = X := by
  unfold M.nat; rw [getQ h]; exact nat_natQ X
theorem withLimb_ok {ρ : Env} {s : St} {w : World} (H : SRel T w0 ρ s w) {x : CV} {v : Value} (hx : CRel ρ x v) {k : Nat → Nat → St → Tree (TV × St)} {K : TV × St → M → Prop} (hK : (withLimb x s k).vc T.txt ρ.m K) :
    ∃ ρ' s' i n X, (k i n s').vc T.txt ρ'.m K ∧ ρ.le ρ' ∧ SRel T w0 ρ' s' w ∧ ρ'.m.Q[i]? = some (natQ X) ∧ LA T w v X ∧ X < 2 ^ n ∧ 1 ≤ n ∧ n ≤ 2432 := by
  unfold withLimb at hK
  split at hK
  · rename_i i
    split at hK
    · rename_i n hn
      split at hK
      · rename_i hle
        obtain ⟨t, e, rfl⟩ := (hx : ∃ t, ρ.F i = some t ∧ v = nth3 t 1)
        obtain ⟨q, n', h1, hn', h2⟩ := H.m.frac i t e
        rw [hn] at hn'; cases hn'
        have hq : ρ.m.nat i = q.num.natAbs := by unfold M.nat; rw [getQ h1]
        have hf := fits_lt (H.m.fit i n q hn h1) hle
        have h3 := T.top (h2.fa hle)
        have hn1 : 1 ≤ n := by
          rcases n with _ | n
          · have := hf.2; have := q.den_pos; simp at *; omega
          · omega
        obtain ⟨l1, H1⟩ := H.pushF (Below.refl _ _) (t := (.bool false, t.2.1, .slice none 0 0)) (k := n) (.of h3 hle) (fits_lt' (fits_natQ hf.1 hn1) hle)
        refine ⟨_, _, s.fit.n, n, q.num.natAbs, hK _ (by show _ = natQ (ρ.m.nat i); rw [hq]), l1, H1, ?_, h3, hf.1, hn1, hle⟩
        show (ρ.m.Q ++ [_])[s.fit.n]? = some _
        rw [← H.m.nQ]; simp
      · exact hK.elim
    · exact hK.elim
  · have hx : v = .slice none 0 0 := hx
    subst hx
    have hz : LA T w (.slice none 0 0) 0 := T.zero w
    obtain ⟨l1, H1⟩ := H.pushF (Below.refl _ _) (t := (.bool false, .slice none 0 0, .slice none 0 0)) (k := 1) (.of hz (by decide)) (fits_lt' ⟨by decide, by decide⟩ (by decide))
    refine ⟨_, _, s.fit.n, 1, 0, hK _ rfl, l1, H1, ?_, hz, by decide, by decide, by decide⟩
    show (ρ.m.Q ++ [_])[s.fit.n]? = some _
    rw [← H.m.nQ]; simp
  · exact hK.elim
def limbTV : AV → TV
  | .agg (_ :: x :: _) => .v (.c x)
  | _ => .tup []
def mkL (s : St) (d : QD) (n : Nat) : Tree (TV × St) := mkQ s d n limbTV
theorem mkL_ok {ρ : Env} {s : St} {w w' : World} (H : SRel T w0 ρ s w) (hb : Below w.heap.size w w') {d : QD} {n X : Nat} {out : AV → TV} {K : TV × St → M → Prop} (hK : (mkQ s d n out).vc T.txt ρ.m K) {u : Value} (hq : natQ X = d.ev ρ.m) (hr : LA T w' u X) (hn : X < 2 ^ n) (h1 : 1 ≤ n) :
    ∃ ρ' s', K (out (fracOf s.fit.n), s') ρ'.m ∧ ρ.le ρ' ∧ SRel T w0 ρ' s' w' ∧ CRel ρ' (.fc s.fit.n 1) u ∧ ρ'.m.Q = ρ.m.Q ++ [natQ X] := by
  unfold mkQ at hK
  split at hK
  · rename_i hle
    obtain ⟨b, a, k, c, a', k', c', e⟩ := T.cells hr
    simp at e
    obtain ⟨rfl, rfl, e2⟩ := e
    obtain ⟨h1, h2⟩ := H.pushF hb (t := (.bool false, .slice a k c, .slice none 0 0)) (.of hr hle) (fits_lt' (fits_natQ hn h1) hle)
    exact ⟨ρ.addF (natQ X) s.fit.n (.bool false, .slice a k c, .slice none 0 0), _, hK _ hq, h1, h2, ⟨(.bool false, .slice a k c, .slice none 0 0), by simp [Env.addF], rfl⟩, rfl⟩
  · exact hK.elim
def sL2 (d : Nat → Nat → QD) (n : Nat → Nat → Nat) (need : Nat → Nat → BD) : List AV → St → Tree (TV × St)
  | [.c x, .c y], s => withLimb x s fun i a s => withLimb y s fun j b s => .need (need i j) (mkL s (d i j) (n a b))
  | _, _ => .fail "two limbs"
theorem sL2_ok {f : FuncId} {d : Nat → Nat → QD} {n : Nat → Nat → Nat} {need : Nat → Nat → BD} {op : Nat → Nat → Nat} {C : Nat → Nat → Prop} (hd : ∀ m i j, (d i j).ev m = natQ (op (m.nat i) (m.nat j))) (hneed : ∀ m i j, (need i j).ev m = true → C (m.nat i) (m.nat j))
    (hn : ∀ a b x y, x < 2 ^ a → y < 2 ^ b → 1 ≤ a → 1 ≤ b → op x y < 2 ^ n a b ∧ 1 ≤ n a b)
    (hc : ∀ w u v x y a b, LA T w u x → LA T w v y → x < 2 ^ a → y < 2 ^ b → a ≤ 2432 → b ≤ 2432 → C x y → T.E w → Calls P f #[u, v] w (fun e w' => ∃ r, e = .returned r ∧ LA T w' r (op x y) ∧ Below w.heap.size w w')) : SOk T P f (sL2 d n need) := by
  intro w0 ρ s w avs vs H hav K hK
  unfold sL2 at hK
  split at hK
  · rename_i x y
    match vs, hav with
    | [u, v], ⟨hx, hy, _⟩ =>
      obtain ⟨ρ1, t1, i, a, X, hK, l1, H1, q1, f1, b1, c1, c1'⟩ := withLimb_ok H hx hK
      obtain ⟨ρ2, t2, j, b, Y, hK, l2, H2, q2, f2, b2, c2, c2'⟩ := withLimb_ok H1 (CRel.mono l1 hy) hK
      have hK : (need i j).ev ρ2.m = true ∧ (mkL t2 (d i j) (n a b)).vc T.txt ρ2.m K := hK
      have e1 : ρ2.m.nat i = X := nat_of (le_q l2 q1)
      have e2 : ρ2.m.nat j = Y := nat_of q2
      have hC := hneed _ _ _ hK.1
      rw [e1, e2] at hC
      refine Calls.mono (hc w u v X Y a b f1 f2 b1 b2 c1' c2' hC H.env) ?_
      rintro e w' ⟨r, rfl, hr, hb⟩
      obtain ⟨h5, h6⟩ := hn a b X Y b1 b2 c1 c2
      obtain ⟨ρ', s', k1, k2, k3, k4, _⟩ := mkL_ok H2 hb hK.2 (by rw [hd, e1, e2]) hr h5 h6
      exact ⟨⟨ρ', _, s', r, k1, (l1.trans l2).trans k2, k3, k4, rfl⟩, hb⟩
  · exact hK.elim
def sLdiv : List AV → St → Tree (TV × St)
  | [.c x, .c y], s => withLimb x s fun i a s => withLimb y s fun j b s => .need (.pos j) (if a ≤ 2432 ∧ b ≤ 2432 then .letQ (.ndiv i j) (.letQ (.nmod i j) (.leaf (.tup [.c (.fc s.fit.n 1), .c (.fc (s.fit.n + 1) 1)], (s.addF a).addF b))) else .fail "divide")
  | _, _ => .fail "divide"
theorem sLdiv_ok {f : FuncId} (hc : ∀ w u v x y a b, LA T w u x → LA T w v y → x < 2 ^ a → y < 2 ^ b → a ≤ 2432 → b ≤ 2432 → 0 < y → T.E w → Calls P f #[u, v] w (fun e w' => ∃ r t, e = .returned (.tuple #[r, t]) ∧ LA T w' r (x / y) ∧ LA T w' t (x % y) ∧ Below w.heap.size w w')) : SOk T P f sLdiv := by
  intro w0 ρ s w avs vs H hav K hK
  unfold sLdiv at hK
  split at hK
  · rename_i x y
    match vs, hav with
    | [u, v], ⟨hx, hy, _⟩ =>
      obtain ⟨ρ1, t1, i, a, X, hK, l1, H1, q1, f1, b1, c1, c1'⟩ := withLimb_ok H hx hK
      obtain ⟨ρ2, t2, j, b, Y, hK, l2, H2, q2, f2, b2, c2, c2'⟩ := withLimb_ok H1 (CRel.mono l1 hy) hK
      obtain ⟨hp, hK⟩ := hK
      have e1 : ρ2.m.nat i = X := nat_of (le_q l2 q1)
      have e2 : ρ2.m.nat j = Y := nat_of q2
      have hp : 0 < ρ2.m.nat j := of_decide_eq_true hp
      rw [e2] at hp
      rw [if_pos ⟨c1', c2'⟩] at hK
      refine Calls.mono (hc w u v X Y a b f1 f2 b1 b2 c1' c2' hp H.env) ?_
      rintro e w' ⟨r, t, rfl, hr, ht, hb⟩
      obtain ⟨b0, a0, k0, d0, a0', k0', d0', er⟩ := T.cells hr
      obtain ⟨b9, a9, k9, d9, a9', k9', d9', et⟩ := T.cells ht
      simp at er et
      obtain ⟨rfl, rfl, er2⟩ := er
      obtain ⟨rfl, rfl, et2⟩ := et
      have hX : X / Y < 2 ^ a := Nat.lt_of_le_of_lt (Nat.div_le_self _ _) b1
      have hY : X % Y < 2 ^ b := Nat.lt_trans (Nat.mod_lt _ hp) b2
      obtain ⟨l3, H3⟩ := H2.pushF hb (t := (.bool false, .slice a0 k0 d0, .slice none 0 0)) (k := a) (.of hr c1') (fits_lt' (fits_natQ hX c1) c1')
      obtain ⟨l4, H4⟩ := H3.pushF (Below.refl _ _) (t := (.bool false, .slice a9 k9 d9, .slice none 0 0)) (k := b) (.of ht c2') (fits_lt' (fits_natQ hY c2) c2')
      have hK := hK (natQ (X / Y)) (by show _ = natQ (ρ2.m.nat i / ρ2.m.nat j); rw [e1, e2])
      have e1' : (ρ2.m.pushQ (natQ (X / Y))).nat i = X := nat_of (l3.1.2.2.2 _ _ (le_q l2 q1))
      have e2' : (ρ2.m.pushQ (natQ (X / Y))).nat j = Y := nat_of (l3.1.2.2.2 _ _ q2)
      have hK : K (.tup [.c (.fc t2.fit.n 1), .c (.fc (t2.fit.n + 1) 1)], (t2.addF a).addF b) ((ρ2.m.pushQ (natQ (X / Y))).pushQ (natQ (X % Y))) := hK (natQ (X % Y)) (by show _ = natQ (_ % _); rw [e1', e2'])
      have hn : (t2.addF a).fit.n = t2.fit.n + 1 := rfl
      refine ⟨⟨_, .tup [.c (.fc t2.fit.n 1), .c (.fc (t2.fit.n + 1) 1)], (t2.addF a).addF b, .tuple #[.slice a0 k0 d0, .slice a9 k9 d9], hK, ((l1.trans l2).trans l3).trans l4, H4, ⟨[.slice a0 k0 d0, .slice a9 k9 d9], rfl, ?_, ?_, trivial⟩, rfl⟩, hb⟩
      · refine CRel.mono l4 (x := .fc t2.fit.n 1) ⟨(.bool false, .slice a0 k0 d0, .slice none 0 0), by simp [Env.addF], rfl⟩
      · exact ⟨(.bool false, .slice a9 k9 d9, .slice none 0 0), by simp [Env.addF, hn], rfl⟩
  · exact hK.elim
def sLword : List AV → St → Tree (TV × St)
  | [.c x, .c (.il .u64 (.ofNat (d + 1)))], s => withLimb x s fun i a s => if d + 1 < 18446744073709551616 then .letQ (.ndivC i (d + 1)) (.letI (.nrem i (d + 1)) (.leaf (.tup [.c (.fc s.fit.n 1), .c (.iv .u64 s.rng.n)], (s.addF a).addI 0 d))) else .fail "by a word"
  | _, _ => .fail "by a word"
theorem sLword_ok {f : FuncId} (hc : ∀ w u x d a, LA T w u x → x < 2 ^ a → a ≤ 2432 → 0 < d → d < 18446744073709551616 → T.E w → Calls P f #[u, .int .u64 (d : Nat)] w (fun e w' => ∃ r, e = .returned (.tuple #[r, .int .u64 (x % d : Nat)]) ∧ LA T w' r (x / d) ∧ Below w.heap.size w w')) : SOk T P f sLword := by
  intro w0 ρ s w avs vs H hav K hK
  unfold sLword at hK
  split at hK
  · rename_i x d
    match vs, hav with
    | [u, v], ⟨hx, hy, _⟩ =>
      have hy : v = .int .u64 ((d + 1 : Nat) : Int) := hy
      subst hy
      obtain ⟨ρ1, t1, i, a, X, hK, l1, H1, q1, f1, b1, c1, c1'⟩ := withLimb_ok H hx hK
      have e1 : ρ1.m.nat i = X := nat_of q1
      split at hK
      · rename_i hd
        refine Calls.mono (hc w u X (d + 1) a f1 b1 c1' (by omega) hd H.env) ?_
        rintro e w' ⟨r, rfl, hr, hb⟩
        obtain ⟨b0, a0, k0, d0, a0', k0', d0', er⟩ := T.cells hr
        simp at er
        obtain ⟨rfl, rfl, er2⟩ := er
        have hX : X / (d + 1) < 2 ^ a := Nat.lt_of_le_of_lt (Nat.div_le_self _ _) b1
        have hm := Nat.mod_lt X (show d + 1 > 0 by omega)
        obtain ⟨l3, H3⟩ := H1.pushF hb (t := (.bool false, .slice a0 k0 d0, .slice none 0 0)) (k := a) (.of hr c1') (fits_lt' (fits_natQ hX c1) c1')
        have H4 := H3.pushI (n := ((X % (d + 1) : Nat) : Int)) (lo := 0) (hi := d) (by omega) (by omega)
        have l4 : (ρ1.addF (natQ (X / (d + 1))) t1.fit.n (.bool false, .slice a0 k0 d0, .slice none 0 0)).le ((ρ1.addF (natQ (X / (d + 1))) t1.fit.n (.bool false, .slice a0 k0 d0, .slice none 0 0)).withM ((ρ1.addF (natQ (X / (d + 1))) t1.fit.n (.bool false, .slice a0 k0 d0, .slice none 0 0)).m.pushI ((X % (d + 1) : Nat) : Int))) := Env.le_withM (M.le_pushI _ _)
        have hK := hK (natQ (X / (d + 1))) (by show _ = natQ (ρ1.m.nat i / (d + 1)); rw [e1])
        have e1' : (ρ1.m.pushQ (natQ (X / (d + 1)))).nat i = X := nat_of (l3.1.2.2.2 _ _ q1)
        have hK : K (.tup [.c (.fc t1.fit.n 1), .c (.iv .u64 t1.rng.n)], (t1.addF a).addI 0 d) ((ρ1.m.pushQ (natQ (X / (d + 1)))).pushI ((X % (d + 1) : Nat) : Int)) := hK _ (by show _ = ((_ % (d + 1) : Nat) : Int); rw [e1'])
        refine ⟨⟨_, .tup [.c (.fc t1.fit.n 1), .c (.iv .u64 t1.rng.n)], (t1.addF a).addI 0 d, .tuple #[.slice a0 k0 d0, .int .u64 ((X % (d + 1) : Nat) : Int)], hK, (l1.trans l3).trans l4, H4, ⟨[.slice a0 k0 d0, .int .u64 ((X % (d + 1) : Nat) : Int)], rfl, ?_, ?_, trivial⟩, rfl⟩, hb⟩
        · exact CRel.mono l4 (x := .fc t1.fit.n 1) ⟨(.bool false, .slice a0 k0 d0, .slice none 0 0), by simp [Env.addF], rfl⟩
        · refine ⟨_, ?_, rfl⟩
          show (ρ1.m.I ++ [_])[t1.rng.n]? = some _
          rw [← H1.m.nI]; simp
      · exact hK.elim
  · exact hK.elim
def shiftBy (s : St) (a : IA) (k : Nat → Nat → Tree (TV × St)) : Tree (TV × St) := match rangeOf s a with
  | some (lo, hi) => if hi ≤ 2432 then (if 0 ≤ lo then k lo.toNat hi.toNat else .need (.le (.l 0) a) (k lo.toNat hi.toNat)) else .fail "shift: far"
  | none => .fail "shift"
def sLshift (d : Nat → IA → QD) (n : Nat → Nat → Nat → Nat) : List AV → St → Tree (TV × St)
  | [.c x, .c y], s => match numOf y with
    | some (.i64, y) => withLimb x s fun i a s => shiftBy s y fun b c => mkL s (d i y) (n a b c)
    | _ => .fail "shift: by"
  | _, _ => .fail "shift"
theorem sLshift_ok {f : FuncId} {d : Nat → IA → QD} {n : Nat → Nat → Nat → Nat} {op : Nat → Nat → Nat} (hd : ∀ m i y, (d i y).ev m = natQ (op (m.nat i) (y.ev m).toNat)) (hn : ∀ a b c x k, x < 2 ^ a → 1 ≤ a → b ≤ k → k ≤ c → op x k < 2 ^ n a b c ∧ 1 ≤ n a b c)
    (hc : ∀ w u x k a, LA T w u x → x < 2 ^ a → a ≤ 2432 → k ≤ 2432 → T.E w → Calls P f #[u, .int .i64 (k : Nat)] w (fun e w' => ∃ r, e = .returned r ∧ LA T w' r (op x k) ∧ Below w.heap.size w w')) : SOk T P f (sLshift d n) := by
  intro w0 ρ s w avs vs H hav K hK
  unfold sLshift at hK
  split at hK
  · rename_i x y
    match vs, hav with
    | [u, v], ⟨hx, hy, _⟩ =>
      split at hK
      · rename_i y0 hy0
        have hv := numOf_rel hy hy0
        subst hv
        obtain ⟨ρ1, t1, i, a, X, hK, l1, H1, q1, f1, b1, c1, c1'⟩ := withLimb_ok H hx hK
        have e1 : ρ1.m.nat i = X := nat_of q1
        have hv2 := numOf_rel (CRel.mono l1 hy) hy0
        have hyy : y0.ev ρ.m = y0.ev ρ1.m := by injection hv2
        rw [hyy] at *
        unfold shiftBy at hK
        split at hK
        · rename_i lo hi hr
          have br := rangeOf_ok H1.m' hr
          split at hK
          · rename_i hhi
            have key : 0 ≤ y0.ev ρ1.m → (mkL t1 (d i y0) (n a lo.toNat hi.toNat)).vc T.txt ρ1.m K → Calls P f [u, .int .i64 (y0.ev ρ1.m)].toArray w (fun e w' => Got T w0 ρ K e w' ∧ Below w.heap.size w w') := by
              intro h0 hK
              have hk : y0.ev ρ1.m = ((y0.ev ρ1.m).toNat : Int) := by omega
              rw [hk]
              refine Calls.mono (hc w u X (y0.ev ρ1.m).toNat a f1 b1 c1' (by omega) H.env) ?_
              rintro e w' ⟨r, rfl, hr, hb⟩
              obtain ⟨h5, h6⟩ := hn a lo.toNat hi.toNat X (y0.ev ρ1.m).toNat b1 c1 (by omega) (by omega)
              obtain ⟨ρ', s', k1, k2, k3, k4, _⟩ := mkL_ok H1 hb hK (by rw [hd, e1]) hr h5 h6
              exact ⟨⟨ρ', _, s', r, k1, l1.trans k2, k3, k4, rfl⟩, hb⟩
            split at hK
            · exact key (by omega) hK
            · obtain ⟨h0, hK⟩ := hK
              exact key (of_decide_eq_true h0) hK
          · exact hK.elim
        · exact hK.elim
      · exact hK.elim
  · exact hK.elim
theorem shrFits_ok {m : M} {p : Nat} {a : IA} (h : (BD.shrFits p a).ev m = true) : m.nat p / 2 ^ (a.ev m).toNat < 2 ^ SB := by
  simp only [BD.ev, decide_eq_true_eq] at h
  exact h
def shrL (s : St) (i : Nat) (y : IA) (n : Nat) : Tree (TV × St) := if n ≤ SB then mkL s (.shr i y) n else .need (.shrFits i y) (mkL s (.shr i y) SB)
def sLshr : List AV → St → Tree (TV × St)
  | [.c x, .c y], s => match numOf y with
    | some (.i64, y) => withLimb x s fun i a s => shiftBy s y fun b _ => shrL s i y (if a ≤ b then 1 else a - b)
    | _ => .fail "shift: by"
  | _, _ => .fail "shift"
theorem sLshr_ok {f : FuncId} (hn : ∀ a b x k, x < 2 ^ a → 1 ≤ a → b ≤ k → x / 2 ^ k < 2 ^ (if a ≤ b then 1 else a - b) ∧ 1 ≤ (if a ≤ b then 1 else a - b))
    (hc : ∀ w u x k a, LA T w u x → x < 2 ^ a → a ≤ 2432 → k ≤ 2432 → T.E w → Calls P f #[u, .int .i64 (k : Nat)] w (fun e w' => ∃ r, e = .returned r ∧ LA T w' r (x / 2 ^ k) ∧ Below w.heap.size w w')) : SOk T P f sLshr := by
  intro w0 ρ s w avs vs H hav K hK
  unfold sLshr at hK
  split at hK
  · rename_i x y
    match vs, hav with
    | [u, v], ⟨hx, hy, _⟩ =>
      split at hK
      · rename_i y0 hy0
        have hv := numOf_rel hy hy0
        subst hv
        obtain ⟨ρ1, t1, i, a, X, hK, l1, H1, q1, f1, b1, c1, c1'⟩ := withLimb_ok H hx hK
        have e1 : ρ1.m.nat i = X := nat_of q1
        have hv2 := numOf_rel (CRel.mono l1 hy) hy0
        have hyy : y0.ev ρ.m = y0.ev ρ1.m := by injection hv2
        rw [hyy] at *
        unfold shiftBy at hK
        split at hK
        · rename_i lo hi hr
          have br := rangeOf_ok H1.m' hr
          split at hK
          · rename_i hhi
            have fin : ∀ n, X / 2 ^ (y0.ev ρ1.m).toNat < 2 ^ n → 1 ≤ n → 0 ≤ y0.ev ρ1.m → (mkL t1 (.shr i y0) n).vc T.txt ρ1.m K → Calls P f [u, .int .i64 (y0.ev ρ1.m)].toArray w (fun e w' => Got T w0 ρ K e w' ∧ Below w.heap.size w w') := by
              intro n h5 h6 h0 hK
              have hk : y0.ev ρ1.m = ((y0.ev ρ1.m).toNat : Int) := by omega
              rw [hk]
              refine Calls.mono (hc w u X (y0.ev ρ1.m).toNat a f1 b1 c1' (by omega) H.env) ?_
              rintro e w' ⟨r, rfl, hr, hb⟩
              obtain ⟨ρ', s', k1, k2, k3, k4, _⟩ := mkL_ok H1 hb hK (by show natQ _ = natQ (ρ1.m.nat i / _); rw [e1]) hr h5 h6
              exact ⟨⟨ρ', _, s', r, k1, l1.trans k2, k3, k4, rfl⟩, hb⟩
            have key : 0 ≤ y0.ev ρ1.m → (shrL t1 i y0 (if a ≤ lo.toNat then 1 else a - lo.toNat)).vc T.txt ρ1.m K → Calls P f [u, .int .i64 (y0.ev ρ1.m)].toArray w (fun e w' => Got T w0 ρ K e w' ∧ Below w.heap.size w w') := by
              intro h0 hK
              obtain ⟨h5, h6⟩ := hn a lo.toNat X (y0.ev ρ1.m).toNat b1 c1 (by omega)
              generalize (if a ≤ lo.toNat then 1 else a - lo.toNat) = n at hK h5 h6
              unfold shrL at hK
              split at hK
              · exact fin n h5 h6 h0 hK
              · obtain ⟨hs, hK⟩ := hK
                have hs := shrFits_ok hs
                rw [e1] at hs
                exact fin SB hs (by unfold SB; omega) h0 hK
            split at hK
            · exact key (by omega) hK
            · obtain ⟨h0, hK⟩ := hK
              exact key (of_decide_eq_true h0) hK
          · exact hK.elim
        · exact hK.elim
      · exact hK.elim
  · exact hK.elim
def sLcmp : List AV → St → Tree (TV × St)
  | [.c x, .c y], s => withLimb x s fun i _ s => withLimb y s fun j _ s => mkI s .i64 (.cmp i j) (-1) 1
  | _, _ => .fail "compare"
theorem sLcmp_ok {f : FuncId} (hc : ∀ w u v x y a b, LA T w u x → LA T w v y → x < 2 ^ a → y < 2 ^ b → a ≤ 2432 → b ≤ 2432 → Calls P f #[u, v] w (fun e w' => e = .returned (.int .i64 (cmpR (natQ x) (natQ y))) ∧ Below w.heap.size w w')) : SOk T P f sLcmp := by
  intro w0 ρ s w avs vs H hav K hK
  unfold sLcmp at hK
  split at hK
  · rename_i x y
    match vs, hav with
    | [u, v], ⟨hx, hy, _⟩ =>
      obtain ⟨ρ1, t1, i, a, X, hK, l1, H1, q1, f1, b1, c1, c1'⟩ := withLimb_ok H hx hK
      obtain ⟨ρ2, t2, j, b, Y, hK, l2, H2, q2, f2, b2, c2, c2'⟩ := withLimb_ok H1 (CRel.mono l1 hy) hK
      refine Calls.mono (hc w u v X Y a b f1 f2 b1 b2 c1' c2') ?_
      rintro e w' ⟨rfl, hb⟩
      have := mkI_end H2 hb (by simp only [ID.ev]; exact (cmp_bd _ _).1) (by simp only [ID.ev]; exact (cmp_bd _ _).2) hK
      simp only [ID.ev, getQ (le_q l2 q1), getQ q2] at this
      exact ⟨this.le (l1.trans l2), hb⟩
  · exact hK.elim
theorem nbB_le {n k : Nat} (h : n < 2 ^ k) : nbB n ≤ k := by
  unfold nbB
  split
  · omega
  · rename_i m
    have : Nat.log2 (m + 1) < k := (Nat.log2_lt (by omega)).2 h
    omega
def sLlen : List AV → St → Tree (TV × St)
  | [.c x], s => withLimb x s fun i a s => mkI s .i64 (.nbits i) 0 (a : Nat)
  | _, _ => .fail "length"
theorem sLlen_ok {f : FuncId} (hc : ∀ w u x a, LA T w u x → x < 2 ^ a → a ≤ 2432 → T.E w → Calls P f #[u] w (fun e w' => e = .returned (.int .i64 (nbB x : Nat)) ∧ Below w.heap.size w w')) : SOk T P f sLlen := by
  intro w0 ρ s w avs vs H hav K hK
  unfold sLlen at hK
  split at hK
  · rename_i x
    match vs, hav with
    | [u], ⟨hx, _⟩ =>
      obtain ⟨ρ1, t1, i, a, X, hK, l1, H1, q1, f1, b1, c1, c1'⟩ := withLimb_ok H hx hK
      have e1 : ρ1.m.nat i = X := nat_of q1
      have := nbB_le b1
      refine Calls.mono (hc w u X a f1 b1 c1' H.env) ?_
      rintro e w' ⟨rfl, hb⟩
      have := mkI_end H1 hb (d := .nbits i) (by simp only [ID.ev]; omega) (by simp only [ID.ev, e1]; omega) hK
      simp only [ID.ev, e1] at this
      exact ⟨this.le l1, hb⟩
  · exact hK.elim
def sWord : List AV → St → Tree (TV × St)
  | [.c (.il .u64 (.ofNat n))], s => if n < 18446744073709551616 then mkL s (.int (.l n)) 64 else .fail "word"
  | _, _ => .fail "word"
theorem sWord_ok {f : FuncId} (hc : ∀ w n, n < 18446744073709551616 → Calls P f #[.int .u64 (n : Nat)] w (fun e w' => ∃ r, e = .returned r ∧ LA T w' r n ∧ Below w.heap.size w w')) : SOk T P f sWord := by
  intro w0 ρ s w avs vs H hav K hK
  unfold sWord at hK
  split at hK
  · rename_i n
    match vs, hav with
    | [u], ⟨hx, _⟩ =>
      have hx : u = .int .u64 ((n : Nat) : Int) := hx
      subst hx
      split at hK
      · rename_i hlt
        refine Calls.mono (hc w n hlt) ?_
        rintro e w' ⟨r, rfl, hr, hb⟩
        obtain ⟨ρ', s', k1, k2, k3, k4, _⟩ := mkL_ok H hb hK rfl hr (show n < 2 ^ 64 from hlt) (by decide)
        exact ⟨⟨ρ', _, s', r, k1, k2, k3, k4, rfl⟩, hb⟩
      · exact hK.elim
  · exact hK.elim
def sPower : List AV → St → Tree (TV × St)
  | [.c (.il .i64 (.ofNat k))], s => if k < 2432 then mkL s (.int (.l (2 ^ k : Nat))) (k + 1) else .fail "power"
  | _, _ => .fail "power"
theorem sPower_ok {f : FuncId} (hc : ∀ w k, k < 2432 → T.E w → Calls P f #[.int .i64 (k : Nat)] w (fun e w' => ∃ r, e = .returned r ∧ LA T w' r (2 ^ k) ∧ Below w.heap.size w w')) : SOk T P f sPower := by
  intro w0 ρ s w avs vs H hav K hK
  unfold sPower at hK
  split at hK
  · rename_i k
    match vs, hav with
    | [u], ⟨hx, _⟩ =>
      have hx : u = .int .i64 ((k : Nat) : Int) := hx
      subst hx
      split at hK
      · rename_i hlt
        refine Calls.mono (hc w k hlt H.env) ?_
        rintro e w' ⟨r, rfl, hr, hb⟩
        obtain ⟨ρ', s', k1, k2, k3, k4, _⟩ := mkL_ok H hb hK rfl hr (Nat.pow_lt_pow_right (by decide) (Nat.lt_succ_self k)) (by omega)
        exact ⟨⟨ρ', _, s', r, k1, k2, k3, k4, rfl⟩, hb⟩
      · exact hK.elim
  · exact hK.elim
def sUnder : List AV → St → Tree (TV × St)
  | [x], s => withFrac x s fun i a s => mkL s (.den i) a
  | _, _ => .fail "under"
theorem sUnder_ok {f : FuncId} (hc : ∀ w u x, T.FA w u x → Calls P f #[u] w (fun e w' => ∃ r, e = .returned r ∧ LA T w' r x.den ∧ Below w.heap.size w w')) : SOk T P f sUnder := by
  intro w0 ρ s w avs vs H hav K hK
  unfold sUnder at hK
  split at hK
  · rename_i x
    match vs, hav with
    | [u], ⟨hx, _⟩ =>
      obtain ⟨ρ1, t1, i, a, qx, hK, l1, H1, q1, f1, b1, c1⟩ := withFrac_ok H hx hK
      refine Calls.mono (hc w u qx f1) ?_
      rintro e w' ⟨r, rfl, hr, hb⟩
      have ha : 1 ≤ a := by
        rcases a with _ | a
        · have := b1.2; have := qx.den_pos; simp at *; omega
        · omega
      obtain ⟨ρ', s', k1, k2, k3, k4, _⟩ := mkL_ok H1 hb hK (by show natQ qx.den = natQ (ρ1.m.q i).den; rw [getQ q1]) hr b1.2 ha
      exact ⟨⟨ρ', _, s', r, k1, l1.trans k2, k3, k4, rfl⟩, hb⟩
  · exact hK.elim
def baOf : CV → Option BA
  | .bl b => some (.l b)
  | .bv i => some (.v i)
  | _ => none
theorem baOf_rel {ρ : Env} {x : CV} {v : Value} (h : CRel ρ x v) {a : BA} (e : baOf x = some a) : v = .bool (a.ev ρ.m) := by
  cases x <;> simp only [baOf, Option.some.injEq, reduceCtorEq] at e
  · subst e; exact h
  · subst e
    obtain ⟨b, hb, rfl⟩ := h
    show Value.bool b = Value.bool (ρ.m.b _)
    rw [getB hb]
def binQ (s : Bool) (X k : Nat) : Rat := ((if s = true then -(X : Int) else (X : Int) : Int) : Rat) / (((2 ^ k : Nat) : Int) : Rat)
def sBinK (b x : CV) (k : Nat) (s : St) : Tree (TV × St) := match baOf b with
  | some b => withLimb x s fun i a s => mkS s (.bin b i k) (if a < k + 1 then k + 1 else a) one
  | none => .fail "binary: sign"
def sBin : List AV → St → Tree (TV × St)
  | [.c b, .c x, .c (.il .i64 (.ofNat k))], s => sBinK b x k s
  | _, _ => .fail "binary"
def sBuild : List AV → St → Tree (TV × St)
  | [.c b, .c x, .c .nsl], s => sBinK b x 0 s
  | _, _ => .fail "build"
theorem sBinK_ok {f : FuncId} (hn : ∀ (s : Bool) (X a k : Nat), X < 2 ^ a → Fits (if a < k + 1 then k + 1 else a) (binQ s X k)) {vb vx : Value} {more : Value} {k : Nat} {b x : CV} {ρ : Env} {s : St} {w : World} (H : SRel T w0 ρ s w) (hbr : CRel ρ b vb) (hxr : CRel ρ x vx)
    (hc : ∀ (s : Bool) u X a, LA T w u X → X < 2 ^ a → a ≤ 2432 → k < 2432 → Calls P f #[.bool s, u, more] w (fun e w' => ∃ r, e = .returned r ∧ T.FA w' r (binQ s X k) ∧ Below w.heap.size w w'))
    {K : TV × St → M → Prop} (hK : (sBinK b x k s).vc T.txt ρ.m K) : Calls P f #[vb, vx, more] w (fun e w' => Got T w0 ρ K e w' ∧ Below w.heap.size w w') := by
  unfold sBinK at hK
  split at hK
  · rename_i a ha
    obtain ⟨ρ1, t1, i, n, X, hK, l1, H1, q1, f1, b1, c1, c1'⟩ := withLimb_ok H hxr hK
    have e1 : ρ1.m.nat i = X := nat_of q1
    have hv := baOf_rel hbr ha
    have hv1 := baOf_rel (CRel.mono l1 hbr) ha
    have hev : a.ev ρ.m = a.ev ρ1.m := by rw [hv] at hv1; injection hv1
    subst hv
    have hk : k < 2432 := by
      have := mkS_le hK
      split at this <;> omega
    refine Calls.mono (hc (a.ev ρ.m) vx X n f1 b1 c1' hk) ?_
    rintro e w' ⟨r, rfl, hr, hb⟩
    obtain ⟨ρ', s', k1, k2, k3, k4⟩ := mkS_ok H1 hb hK (by show binQ (a.ev ρ.m) X k = binQ (a.ev ρ1.m) (ρ1.m.nat i) k; rw [hev, e1]) hr (hn _ _ _ _ b1)
    exact ⟨⟨ρ', _, s', r, k1, l1.trans k2, k3, k4, rfl⟩, hb⟩
  · exact hK.elim
theorem sBin_ok {f : FuncId} (hn : ∀ (s : Bool) (X a k : Nat), X < 2 ^ a → Fits (if a < k + 1 then k + 1 else a) (binQ s X k))
    (hc : ∀ w (s : Bool) u X a (k : Nat), LA T w u X → X < 2 ^ a → a ≤ 2432 → k < 2432 → T.E w → Calls P f #[.bool s, u, .int .i64 (k : Nat)] w (fun e w' => ∃ r, e = .returned r ∧ T.FA w' r (binQ s X k) ∧ Below w.heap.size w w')) : SOk T P f sBin := by
  intro w0 ρ s w avs vs H hav K hK
  unfold sBin at hK
  split at hK
  · rename_i b x k
    match vs, hav with
    | [vb, vx, vk], ⟨hb, hx, hk, _⟩ =>
      have hk : vk = .int .i64 ((k : Nat) : Int) := hk
      subst hk
      exact sBinK_ok hn H hb hx (fun s u X a h1 h2 h3 h4 => hc w s u X a k h1 h2 h3 h4 H.env) hK
  · exact hK.elim
theorem sBuild_ok {f : FuncId} (hn : ∀ (s : Bool) (X a k : Nat), X < 2 ^ a → Fits (if a < k + 1 then k + 1 else a) (binQ s X k))
    (hc : ∀ w (s : Bool) u X a, LA T w u X → X < 2 ^ a → a ≤ 2432 → Calls P f #[.bool s, u, .slice none 0 0] w (fun e w' => ∃ r, e = .returned r ∧ T.FA w' r (binQ s X 0) ∧ Below w.heap.size w w')) : SOk T P f sBuild := by
  intro w0 ρ s w avs vs H hav K hK
  unfold sBuild at hK
  split at hK
  · rename_i b x
    match vs, hav with
    | [vb, vx, vk], ⟨hb, hx, hk, _⟩ =>
      have hk : vk = .slice none 0 0 := hk
      subst hk
      exact sBinK_ok hn H hb hx (fun s u X a h1 h2 h3 _ => hc w s u X a h1 h2 h3) hK
  · exact hK.elim
end
end Go.Proofs.VM
namespace Go.Proofs.VM
open Go.RowKit
noncomputable section
variable {T : FT} {w0 : World} {P : Program}
def RM : Nat := 100000
def withRef (x : AV) (s : St) (k : Nat → Nat → St → Tree (TV × St)) : Tree (TV × St) :=
  match x with
  | .agg [.fc i 0, .fc j 1, .fc l 2] => if i = j ∧ i = l then (match s.fit.get i with
    | some n => if RK ≤ n ∧ n - RK ≤ RM then k i (n - RK) s else .fail "kind"
    | none => .fail "fit") else .fail "mixed"
  | _ => .fail "no fraction of the second kind"
def mkR (s : St) (d : QD) (n : Nat) (out : AV → TV) : Tree (TV × St) :=
  if n ≤ 40000 then .letQ d (.leaf (out (fracOf s.fit.n), s.addF (RK + n))) else
    if n ≤ RM then .letQ d (.need (.qfit s.fit.n) (.leaf (out (fracOf s.fit.n), s.addF (RK + QB)))) else .fail "large"
def r2 (f : Nat → Nat → QD) (n : Nat → Nat → Nat) : List AV → St → Tree (TV × St)
  | [x, y], s => withRef x s fun i a s => withRef y s fun j b s => mkR s (f i j) (n a b) one
  | _, _ => .fail "two"
def r1 (f : Nat → QD) (n : Nat → Nat) : List AV → St → Tree (TV × St)
  | [x], s => withRef x s fun i a s => mkR s (f i) (n a) one
  | _, _ => .fail "one"
end
end Go.Proofs.VM
namespace Go.Proofs.VM
open Go.RowKit
noncomputable section
variable {T : FT} {w0 : World} {P : Program}
end
end Go.Proofs.VM
namespace Go.Proofs.VM
open Go.RowKit
noncomputable section
variable {T : FT} {w0 : World} {P : Program}
inductive So where
  | add | mul | neg
def So.val : So → Rat → Rat → Rat
  | .add, x, y => x + y
  | .mul, x, y => x * y
  | .neg, x, _ => -x
def So.size : So → Nat → Nat → Nat
  | .add, a, b => a + b + 1
  | .mul, a, b => a + b
  | .neg, a, _ => a
def bsK (κ : Bool) : Nat := if κ then RK else 0
def EvRel (m : M) (e : List (Nat × Nat)) (v : List Rat) : Prop := All2 (fun (a : Nat × Nat) (q : Rat) => m.Q[a.1]? = some q ∧ Fits a.2 q ∧ a.2 ≤ QB) e v
theorem EvRel.getD {m : M} {e : List (Nat × Nat)} {v : List Rat} (h : EvRel m e v) {i : Nat} (hi : i < e.length) : m.q (e.getD i (0, 0)).1 = v.getD i 0 ∧ Fits (e.getD i (0, 0)).2 (v.getD i 0) := by
  obtain ⟨a, ha⟩ : ∃ a, e[i]? = some a := ⟨_, List.getElem?_eq_getElem hi⟩
  obtain ⟨q, hq, h1, h2, _⟩ := All2.get h ha
  rw [List.getD_eq_getElem?_getD, List.getD_eq_getElem?_getD, ha, hq]
  exact ⟨getQ h1, h2⟩
theorem EvRel.mono {m m' : M} (hm : ∀ (i : Nat) (q : Rat), m.Q[i]? = some q → m'.Q[i]? = some q) {e : List (Nat × Nat)} {v : List Rat} (h : EvRel m e v) : EvRel m' e v := All2.mono (fun _ _ ⟨a, b, c⟩ => ⟨hm _ _ a, b, c⟩) h
def FT.FKK (T : FT) (κ : Bool) (w : World) (v : Value) (q : Rat) : Prop := match κ with
  | true => T.FR w v q
  | false => T.FA w v q
theorem FT.FKK.to {T : FT} {κ : Bool} {w : World} {v : Value} {q : Rat} (h : T.FKK κ w v q) {n : Nat} (hn : n ≤ QB) : T.FK (bsK κ + n) w v q := by
  cases κ with
  | true => exact FT.FK.ofR h
  | false => show T.FK (0 + n) w v q; rw [Nat.zero_add]; exact FT.FK.of h hn
theorem FT.FK.kk {T : FT} {κ : Bool} {w : World} {v : Value} {q : Rat} {n : Nat} (h : T.FK (bsK κ + n) w v q) (hn : n ≤ QB) : T.FKK κ w v q := by
  cases κ with
  | true => exact FT.FK.fr h
  | false =>
    have h : T.FK (0 + n) w v q := h
    rw [Nat.zero_add] at h; exact FT.FK.fa h hn
theorem FT.FKK.mono {T : FT} {κ : Bool} {w w' : World} {v : Value} {q : Rat} (h : T.FKK κ w v q) (hb : Below w.heap.size w w') : T.FKK κ w' v q := by
  cases κ with
  | true => exact T.monoR h hb
  | false => exact T.mono h hb
theorem FT.FKK.cells {T : FT} {κ : Bool} {w : World} {v : Value} {q : Rat} (h : T.FKK κ w v q) : ∃ t : Value × Value × Value, v = .agg #[t.1, t.2.1, t.2.2] := by
  cases κ with
  | true => obtain ⟨b, a, n, c, a', n', c', e⟩ := T.cellsR h; exact ⟨(.bool b, .slice a n c, .slice a' n' c'), e⟩
  | false => obtain ⟨b, a, n, c, a', n', c', e⟩ := T.cells h; exact ⟨(.bool b, .slice a n c, .slice a' n' c'), e⟩
theorem SRel.setF {ρ : Env} {s : St} {w : World} (H : SRel T w0 ρ s w) {i k : Nat} {q : Rat} {t : Value × Value × Value} (hi : i < s.fit.n) (h0 : ρ.F i = none) (hq : ρ.m.Q[i]? = some q) (hk : s.fit.get i = some k) (hf : T.FK k w (.agg #[t.1, t.2.1, t.2.2]) q) :
    ρ.le { ρ with F := fun j => if j = i then some t else ρ.F j } ∧ SRel T w0 { ρ with F := fun j => if j = i then some t else ρ.F j } s w := by
  have hM := H.m
  have hle : ρ.le { ρ with F := fun j => if j = i then some t else ρ.F j } := ⟨.refl _, fun _ _ h => h, fun j x e => by
    have : j ≠ i := by rintro rfl; rw [h0] at e; cases e
    simp [this, e], fun _ _ h => h⟩
  refine ⟨hle, { nI := hM.nI, nB := hM.nB, nS := hM.nS, nQ := hM.nQ, rng := hM.rng, fit := hM.fit, frac := ?_, fresh := hM.fresh, freshF := ?_, freshC := hM.freshC, cls := ?_, oneC := hM.oneC }, H.h.later hle (Below.refl _ _), H.l.later hle (.refl _)⟩
  · intro j x e
    have e : (if j = i then some t else ρ.F j) = some x := e
    split at e
    · rename_i he
      cases e
      subst he
      exact ⟨q, k, hq, hk, hf⟩
    · exact hM.frac j x e
  · intro j hj
    show (if j = i then some t else ρ.F j) = none
    rw [if_neg (by omega)]
    exact hM.freshF j hj
  · intro j f caps e
    obtain ⟨cs, h1, h2⟩ := hM.cls j f caps e
    exact ⟨cs, h1, h2.mono fun _ _ => CRel.mono hle⟩
end
end Go.Proofs.VM
