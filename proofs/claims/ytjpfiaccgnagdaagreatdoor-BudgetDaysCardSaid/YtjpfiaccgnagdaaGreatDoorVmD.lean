/- The machine: what it knows of functions. -/
import Derived.Test.YtjpfiaccgnagdaaGreatDoorVmB
import Derived.KernelRfl
namespace Go.Proofs.VM
open Go.RowKit
noncomputable section
variable {T : FT} {w0 : World} {P : Program}

/-! ### Fractions' functions -/
def withFrac (x : AV) (s : St) (k : Nat → Nat → St → Tree (TV × St)) : Tree (TV × St) :=
  match x with
  | .agg [.fc i 0, .fc j 1, .fc l 2] => if i = j ∧ i = l then (match s.fit.get i with
    | some n => if n ≤ 2432 then k i n s else .fail "large"
    | none => .fail "fit") else .fail "mixed"
  | .agg [.bl false, .nsl, .nsl] => .letQ .zero (k s.fit.n 1 (s.addF 1))
  | _ => .fail "no fraction"
def fracOf (i : Nat) : AV := .agg [.fc i 0, .fc i 1, .fc i 2]
def mkQ (s : St) (d : QD) (n : Nat) (out : AV → TV) : Tree (TV × St) :=
  if n ≤ 2432 then .letQ d (.leaf (out (fracOf s.fit.n), s.addF n)) else .fail "large"
/-- One whose size must be asked for. -/
def mkD (s : St) (d : QD) (n : Nat) (out : AV → TV) : Tree (TV × St) :=
  if n ≤ 2432 then mkQ s d n out else .letQ d (.need (.qfit s.fit.n) (.leaf (out (fracOf s.fit.n), s.addF QB)))
/-- Binary digits of numbers from lo to hi. -/
def bitsFrom : Nat → Nat → Nat → Option Nat
  | 0, _, _ => none
  | f + 1, k, n => if n < 2 ^ k then some k else bitsFrom f (k + 1) n
theorem bitsFrom_ok : ∀ (f k n r : Nat), bitsFrom f k n = some r → n < 2 ^ r ∧ k ≤ r
  | f + 1, k, n, r, h => by
    unfold bitsFrom at h
    split at h
    · cases h; exact ⟨by assumption, Nat.le_refl _⟩
    · have := bitsFrom_ok f (k + 1) n r h; exact ⟨this.1, by omega⟩
def bitsOf (lo hi : Int) : Option Nat := bitsFrom 80 1 (max lo.natAbs hi.natAbs)
theorem bitsOf_ok {lo hi x : Int} {r : Nat} (h : bitsOf lo hi = some r) (h0 : lo ≤ x) (h1 : x ≤ hi) : x.natAbs < 2 ^ r ∧ 1 ≤ r := by
  have := bitsFrom_ok _ _ _ _ h
  exact ⟨by omega, this.2⟩
def one (a : AV) : TV := .v a
def okTup (a : AV) : TV := .tup [a, .c (.il .i64 0)]
def sInt : List AV → St → Tree (TV × St)
  | [.c x], s => match numOf x with
    | some (.i64, a) => match rangeOf s a with
      | some (lo, hi) => if -9223372036854775808 ≤ lo ∧ hi ≤ 9223372036854775807 then (match bitsOf lo hi with
        | some n => mkQ s (.int a) n one
        | none => .fail "int") else .fail "int"
      | none => .fail "int"
    | _ => .fail "int"
  | _, _ => .fail "int"
def sNew : List AV → St → Tree (TV × St)
  | [.c x, .c y], s => match numOf x, numOf y with
    | some (.i64, a), some (.i64, b) => match rangeOf s a, rangeOf s b with
      | some (al, ah), some (bl, bh) => if -9223372036854775808 ≤ al ∧ ah ≤ 9223372036854775807 ∧ -9223372036854775808 ≤ bl ∧ bh ≤ 9223372036854775807 then (match bitsOf al ah, bitsOf bl bh with
        | some n, some k => if 0 < bl ∨ bh < 0 then mkQ s (.frac a b) (n + k) okTup else .need (.ne b (.l 0)) (mkQ s (.frac a b) (n + k) okTup)
        | _, _ => .fail "new") else .fail "new: 0"
      | _, _ => .fail "new"
    | _, _ => .fail "new"
  | _, _ => .fail "new"
def s2 (f : Nat → Nat → QD) (n : Nat → Nat → Nat) : List AV → St → Tree (TV × St)
  | [x, y], s => withFrac x s fun i a s => withFrac y s fun j b s => mkD s (f i j) (n a b) one
  | _, _ => .fail "two"
def s1 (f : Nat → QD) (n : Nat → Nat) : List AV → St → Tree (TV × St)
  | [x], s => withFrac x s fun i a s => mkQ s (f i) (n a) one
  | _, _ => .fail "one"
def sZero : List AV → St → Tree (TV × St)
  | [x], s => withFrac x s fun i _ s => mkB s (.zero i)
  | _, _ => .fail "zero"
def sSame : List AV → St → Tree (TV × St)
  | [x, y], s => withFrac x s fun i _ s => withFrac y s fun j _ s => mkB s (.same i j)
  | _, _ => .fail "same"
def sSign : List AV → St → Tree (TV × St)
  | [x], s => withFrac x s fun i _ s => mkI s .i64 (.sign i) (-1) 1
  | _, _ => .fail "sign"
def sCmp : List AV → St → Tree (TV × St)
  | [x, y], s => withFrac x s fun i _ s => withFrac y s fun j _ s => mkI s .i64 (.cmp i j) (-1) 1
  | _, _ => .fail "cmp"
def sText : List AV → St → Tree (TV × St)
  | [x], s => withFrac x s fun i _ s => .letS (.txt i) (.leaf (.v (.c (.sv s.nS)), s.addS))
  | _, _ => .fail "text"
def sDiv : List AV → St → Tree (TV × St)
  | [x, y], s => withFrac x s fun i a s => withFrac y s fun j b s => .letB (.zero j) (.ifB s.nB (.leaf (.tup [.agg [.bl false, .nsl, .nsl], .c (.il .i64 3)], s.addB)) (mkD s.addB (.div i j) (a + b) okTup))
  | _, _ => .fail "div"
def sInv : List AV → St → Tree (TV × St)
  | [x], s => withFrac x s fun i a s => .letB (.zero i) (.ifB s.nB (.fail "inverse of 0") (mkQ s.addB (.inv i) a one))
  | _, _ => .fail "inverse"
/-- What is asked of a known function. -/
def SOk (T : FT) (P : Program) (f : FuncId) (r : List AV → St → Tree (TV × St)) : Prop := ∀ (w0 : World) (ρ : Env) (s : St) (w : World) (avs : List AV) (vs : List Value), SRel T w0 ρ s w → All2 (ARel ρ) avs vs → ∀ K, (r avs s).vc T.txt ρ.m K → Calls P f vs.toArray w (fun e w' => Got T w0 ρ K e w' ∧ Below w.heap.size w w')
theorem getQ {m : M} {i : Nat} {q : Rat} (h : m.Q[i]? = some q) : m.q i = q := by unfold M.q; rw [List.getD_eq_getElem?_getD, h]; rfl
theorem withFrac_ok {ρ : Env} {s : St} {w : World} (H : SRel T w0 ρ s w) {x : AV} {v : Value} (hx : ARel ρ x v) {k : Nat → Nat → St → Tree (TV × St)} {K : TV × St → M → Prop} (hK : (withFrac x s k).vc T.txt ρ.m K) :
    ∃ ρ' s' i n q, (k i n s').vc T.txt ρ'.m K ∧ ρ.le ρ' ∧ SRel T w0 ρ' s' w ∧ ρ'.m.Q[i]? = some q ∧ T.FA w v q ∧ Fits n q ∧ n ≤ 2432 := by
  unfold withFrac at hK
  split at hK
  · rename_i i j l
    split at hK
    · rename_i h
      obtain ⟨rfl, rfl⟩ := h
      split at hK
      · rename_i n hn
        split at hK
        · rename_i hle
          obtain ⟨vs, rfl, h⟩ := hx
          match vs, h with
          | [v0, v1, v2], ⟨⟨t, e0, h0⟩, ⟨t1, e1, h1⟩, ⟨t2, e2, h2⟩, _⟩ =>
            rw [e0] at e1 e2
            cases e1; cases e2
            subst h0; subst h1; subst h2
            obtain ⟨q, n', hq, hn', hf⟩ := H.m.frac i t e0
            rw [hn] at hn'; cases hn'
            exact ⟨ρ, s, i, n, q, hK, .refl _, H, hq, hf.fa hle, fits_lt (H.m.fit i n q hn hq) hle, hle⟩
        · exact hK.elim
      · exact hK.elim
    · exact hK.elim
  · obtain ⟨vs, rfl, h⟩ := hx
    match vs, h with
    | [v0, v1, v2], ⟨h0, h1, h2, _⟩ =>
      have h0 : v0 = .bool false := h0
      have h1 : v1 = .slice none 0 0 := h1
      have h2 : v2 = .slice none 0 0 := h2
      subst h0; subst h1; subst h2
      have hz := T.zero w
      obtain ⟨h1, h2⟩ := H.pushF (Below.refl _ _) (q := 0) (t := (.bool false, .slice none 0 0, .slice none 0 0)) (k := 1) (.of hz (by decide)) (fits_lt' ⟨by decide, by decide⟩ (by decide))
      refine ⟨_, _, s.fit.n, 1, 0, hK 0 rfl, h1, h2, ?_, hz, ⟨by decide, by decide⟩, by decide⟩
      show (ρ.m.Q ++ [0])[s.fit.n]? = some 0
      rw [← H.m.nQ]; simp
  · exact hK.elim
theorem mkQ_ok {ρ : Env} {s : St} {w w' : World} (H : SRel T w0 ρ s w) (hb : Below w.heap.size w w') {d : QD} {n : Nat} {out : AV → TV} {K : TV × St → M → Prop} (hK : (mkQ s d n out).vc T.txt ρ.m K) {r : Value} {q : Rat} (hq : q = d.ev ρ.m) (hr : T.FA w' r q) (hn : Fits n q) :
    ∃ ρ' s', K (out (fracOf s.fit.n), s') ρ'.m ∧ ρ.le ρ' ∧ SRel T w0 ρ' s' w' ∧ ARel ρ' (fracOf s.fit.n) r := by
  unfold mkQ at hK
  split at hK
  · rename_i hle
    obtain ⟨b, a, k, c, a', k', c', rfl⟩ := T.cells hr
    obtain ⟨h1, h2⟩ := H.pushF hb (t := (.bool b, .slice a k c, .slice a' k' c')) (.of hr hle) (fits_lt' hn hle)
    refine ⟨ρ.addF q s.fit.n (.bool b, .slice a k c, .slice a' k' c'), _, hK q hq, h1, h2, [.bool b, .slice a k c, .slice a' k' c'], rfl, ?_, ?_, ?_, trivial⟩
    · exact ⟨(.bool b, .slice a k c, .slice a' k' c'), by simp [Env.addF], rfl⟩
    · exact ⟨(.bool b, .slice a k c, .slice a' k' c'), by simp [Env.addF], rfl⟩
    · exact ⟨(.bool b, .slice a k c, .slice a' k' c'), by simp [Env.addF], rfl⟩
  · exact hK.elim
theorem fits_up {n k : Nat} {q : Rat} (h : Fits n q) (hk : n ≤ k) : Fits k q := ⟨Nat.lt_of_lt_of_le h.1 (Nat.pow_le_pow_right (by decide) hk), Nat.lt_of_lt_of_le h.2 (Nat.pow_le_pow_right (by decide) hk)⟩
theorem qfit_fits {m : M} {p : Nat} {q : Rat} (h : (BD.qfit p).ev m = true) (e : m.Q[p]? = some q) : Fits QB q := by
  have e' : m.q p = q := by unfold M.q; rw [List.getD_eq_getElem?_getD, e]; rfl
  simp only [BD.ev, e', Bool.and_eq_true, decide_eq_true_eq] at h
  exact h
theorem mkD_fit {ρ : Env} {s : St} {w : World} (H : SRel T w0 ρ s w) {d : QD} {n : Nat} {out : AV → TV} {K : TV × St → M → Prop} (hK : (mkD s d n out).vc T.txt ρ.m K) (hn : Fits n (d.ev ρ.m)) : Fits QB (d.ev ρ.m) := by
  unfold mkD at hK
  split at hK
  · rename_i hle; exact fits_up hn hle
  · refine qfit_fits (hK _ rfl).1 ?_
    show (ρ.m.Q ++ [d.ev ρ.m])[s.fit.n]? = _
    rw [← H.m.nQ]; simp
theorem mkD_ok {ρ : Env} {s : St} {w w' : World} (H : SRel T w0 ρ s w) (hb : Below w.heap.size w w') {d : QD} {n : Nat} {out : AV → TV} {K : TV × St → M → Prop} (hK : (mkD s d n out).vc T.txt ρ.m K) {r : Value} {q : Rat} (hq : q = d.ev ρ.m) (hr : T.FA w' r q) (hn : Fits n q) :
    ∃ ρ' s', K (out (fracOf s.fit.n), s') ρ'.m ∧ ρ.le ρ' ∧ SRel T w0 ρ' s' w' ∧ ARel ρ' (fracOf s.fit.n) r := by
  have hf := mkD_fit H hK (hq ▸ hn)
  unfold mkD at hK
  split at hK
  · exact mkQ_ok H hb hK hq hr hn
  · refine mkQ_ok H hb (d := d) (n := QB) ?_ hq hr (hq ▸ hf)
    unfold mkQ
    rw [if_pos (show QB ≤ 2432 from Nat.le_refl _)]
    exact fun n hn => (hK n hn).2
theorem okTup_rel {ρ : Env} {a : AV} {v : Value} (h : ARel ρ a v) : TRel ρ (okTup a) (.tuple #[v, .int .i64 0]) := ⟨[v, .int .i64 0], rfl, h, rfl, trivial⟩
theorem le_q {ρ ρ' : Env} (h : ρ.le ρ') {i : Nat} {q : Rat} (e : ρ.m.Q[i]? = some q) : ρ'.m.Q[i]? = some q := h.1.2.2.2 _ _ e
/-- A function of two fractions. -/
theorem s2_ok {f : FuncId} {d : Nat → Nat → QD} {n : Nat → Nat → Nat} {op : Rat → Rat → Rat} (hd : ∀ m i j, (d i j).ev m = op (m.q i) (m.q j)) (hn : ∀ a b x y, Fits a x → Fits b y → Fits (n a b) (op x y))
    (hc : ∀ w u v x y a b, T.FA w u x → T.FA w v y → Fits a x → Fits b y → a ≤ 2432 → b ≤ 2432 → Fits QB (op x y) → T.E w → Calls P f #[u, v] w (fun e w' => ∃ r, e = .returned r ∧ T.FA w' r (op x y) ∧ Below w.heap.size w w')) : SOk T P f (s2 d n) := by
  intro w0 ρ s w avs vs H hav K hK
  match avs, vs, hav, hK with
  | [x, y], [u, v], ⟨hx, hy, _⟩, hK =>
    have hK : (withFrac x s fun i a s => withFrac y s fun j b s => mkD s (d i j) (n a b) one).vc T.txt ρ.m K := hK
    obtain ⟨ρ1, t1, i, a, qx, hK, l1, H1, q1, f1, b1, c1⟩ := withFrac_ok H hx hK
    obtain ⟨ρ2, t2, j, b, qy, hK, l2, H2, q2, f2, b2, c2⟩ := withFrac_ok H1 (ARel.mono l1 hy) hK
    have e0 : (d i j).ev ρ2.m = op qx qy := by rw [hd, show ρ2.m.q i = qx from getQ (le_q l2 q1), show ρ2.m.q j = qy from getQ q2]
    have hnb : Fits QB (op qx qy) := e0 ▸ mkD_fit H2 hK (by rw [e0]; exact hn _ _ _ _ b1 b2)
    refine Calls.mono (hc w u v qx qy a b f1 f2 b1 b2 c1 c2 hnb H.env) ?_
    rintro e w' ⟨r, rfl, hr, hb⟩
    obtain ⟨ρ', s', k1, k2, k3, k4⟩ := mkD_ok H2 hb hK e0.symm hr (hn _ _ _ _ b1 b2)
    exact ⟨⟨ρ', _, s', r, k1, (l1.trans l2).trans k2, k3, k4, rfl⟩, hb⟩
  | [], _, _, hK => exact hK.elim
  | [_], _, _, hK => exact hK.elim
  | _ :: _ :: _ :: _, _, _, hK => exact hK.elim
/-- A function of one fraction. -/
theorem s1_ok {f : FuncId} {d : Nat → QD} {n : Nat → Nat} {op : Rat → Rat} (hd : ∀ m i, (d i).ev m = op (m.q i)) (hn : ∀ a x, Fits a x → Fits (n a) (op x))
    (hc : ∀ w u x a, T.FA w u x → Fits a x → a ≤ 2432 → T.E w → Calls P f #[u] w (fun e w' => ∃ r, e = .returned r ∧ T.FA w' r (op x) ∧ Below w.heap.size w w')) : SOk T P f (s1 d n) := by
  intro w0 ρ s w avs vs H hav K hK
  match avs, vs, hav, hK with
  | [x], [u], ⟨hx, _⟩, hK =>
    have hK : (withFrac x s fun i a s => mkQ s (d i) (n a) one).vc T.txt ρ.m K := hK
    obtain ⟨ρ1, t1, i, a, qx, hK, l1, H1, q1, f1, b1, c1⟩ := withFrac_ok H hx hK
    refine Calls.mono (hc w u qx a f1 b1 c1 H.env) ?_
    rintro e w' ⟨r, rfl, hr, hb⟩
    obtain ⟨ρ', s', k1, k2, k3, k4⟩ := mkQ_ok H1 hb hK (by rw [hd, show ρ1.m.q i = qx from getQ q1]) hr (hn _ _ b1)
    exact ⟨⟨ρ', _, s', r, k1, l1.trans k2, k3, k4, rfl⟩, hb⟩
  | [], _, _, hK => exact hK.elim
  | _ :: _ :: _, _, _, hK => exact hK.elim
/-- What a made number, a made truth comes to. -/
theorem mkI_end {ρ : Env} {s : St} {w w' : World} (H : SRel T w0 ρ s w) (hb : Below w.heap.size w w') {k : IntKind} {d : ID} {lo hi : Int} (h0 : lo ≤ d.ev ρ.m) (h1 : d.ev ρ.m ≤ hi) {K : TV × St → M → Prop} (hK : (mkI s k d lo hi).vc T.txt ρ.m K) : Got T w0 ρ K (.returned (.int k (d.ev ρ.m))) w' := by
  obtain ⟨ρ', tv, s', v, k1, k2, _, _, _, k3, k4, k5⟩ := mkI_ok (T := T) (w0 := w0) (P := default) H.m' h0 h1 (sem := pure (.int k (d.ev ρ.m))) (fun _ _ => rfl) K hK
  have := k5 w
  simp at this
  subst this
  exact ⟨ρ', tv, s', _, k1, k2, (k3 w H).world hb, k4, rfl⟩
theorem mkB_end {ρ : Env} {s : St} {w w' : World} (H : SRel T w0 ρ s w) (hb : Below w.heap.size w w') {d : BD} {K : TV × St → M → Prop} (hK : (mkB s d).vc T.txt ρ.m K) : Got T w0 ρ K (.returned (.bool (d.ev ρ.m))) w' := by
  obtain ⟨ρ', tv, s', v, k1, k2, _, _, _, k3, k4, k5⟩ := mkB_ok (T := T) (w0 := w0) (P := default) H.m' (d := d) (sem := pure (.bool (d.ev ρ.m))) (fun _ => rfl) K hK
  have := k5 w
  simp at this
  subst this
  exact ⟨ρ', tv, s', _, k1, k2, (k3 w H).world hb, k4, rfl⟩
theorem Got.le {ρ ρ' : Env} (h : ρ.le ρ') {K : TV × St → M → Prop} {e : Ending} {w : World} (g : Got T w0 ρ' K e w) : Got T w0 ρ K e w := by
  obtain ⟨ρ2, tv, s, v, h1, h2, h3⟩ := g
  exact ⟨ρ2, tv, s, v, h1, h.trans h2, h3⟩
theorem sZero_ok {f : FuncId} (hc : ∀ w u x, T.FA w u x → Calls P f #[u] w (fun e w' => e = .returned (.bool (decide (x = 0))) ∧ Below w.heap.size w w')) : SOk T P f sZero := by
  intro w0 ρ s w avs vs H hav K hK
  match avs, vs, hav, hK with
  | [x], [u], ⟨hx, _⟩, hK =>
    have hK : (withFrac x s fun i _ s => mkB s (.zero i)).vc T.txt ρ.m K := hK
    obtain ⟨ρ1, t1, i, a, qx, hK, l1, H1, q1, f1, b1, c1⟩ := withFrac_ok H hx hK
    refine Calls.mono (hc w u qx f1) ?_
    rintro e w' ⟨rfl, hb⟩
    have := mkB_end H1 hb hK
    simp only [BD.ev, getQ q1] at this
    exact ⟨this.le l1, hb⟩
  | [], _, _, hK => exact hK.elim
  | _ :: _ :: _, _, _, hK => exact hK.elim
theorem sSame_ok {f : FuncId} (hc : ∀ w u v x y a b, T.FA w u x → T.FA w v y → Fits a x → Fits b y → a ≤ 2432 → b ≤ 2432 → Calls P f #[u, v] w (fun e w' => e = .returned (.bool (decide (x = y))) ∧ Below w.heap.size w w')) : SOk T P f sSame := by
  intro w0 ρ s w avs vs H hav K hK
  match avs, vs, hav, hK with
  | [x, y], [u, v], ⟨hx, hy, _⟩, hK =>
    have hK : (withFrac x s fun i _ s => withFrac y s fun j _ s => mkB s (.same i j)).vc T.txt ρ.m K := hK
    obtain ⟨ρ1, t1, i, a, qx, hK, l1, H1, q1, f1, b1, c1⟩ := withFrac_ok H hx hK
    obtain ⟨ρ2, t2, j, b, qy, hK, l2, H2, q2, f2, b2, c2⟩ := withFrac_ok H1 (ARel.mono l1 hy) hK
    refine Calls.mono (hc w u v qx qy a b f1 f2 b1 b2 c1 c2) ?_
    rintro e w' ⟨rfl, hb⟩
    have := mkB_end H2 hb hK
    simp only [BD.ev, getQ (le_q l2 q1), getQ q2] at this
    exact ⟨this.le (l1.trans l2), hb⟩
  | [], _, _, hK => exact hK.elim
  | [_], _, _, hK => exact hK.elim
  | _ :: _ :: _ :: _, _, _, hK => exact hK.elim
theorem sgn_bd (x : Rat) : -1 ≤ sgnQ x ∧ sgnQ x ≤ 1 := by unfold sgnQ; split <;> (try split) <;> omega
theorem cmp_bd (x y : Rat) : -1 ≤ cmpR x y ∧ cmpR x y ≤ 1 := by unfold cmpR; split <;> (try split) <;> omega
theorem sSign_ok {f : FuncId} (hc : ∀ w u x, T.FA w u x → Calls P f #[u] w (fun e w' => e = .returned (.int .i64 (sgnQ x)) ∧ Below w.heap.size w w')) : SOk T P f sSign := by
  intro w0 ρ s w avs vs H hav K hK
  match avs, vs, hav, hK with
  | [x], [u], ⟨hx, _⟩, hK =>
    have hK : (withFrac x s fun i _ s => mkI s .i64 (.sign i) (-1) 1).vc T.txt ρ.m K := hK
    obtain ⟨ρ1, t1, i, a, qx, hK, l1, H1, q1, f1, b1, c1⟩ := withFrac_ok H hx hK
    refine Calls.mono (hc w u qx f1) ?_
    rintro e w' ⟨rfl, hb⟩
    have := mkI_end H1 hb (by simp only [ID.ev]; exact (sgn_bd _).1) (by simp only [ID.ev]; exact (sgn_bd _).2) hK
    simp only [ID.ev, getQ q1] at this
    exact ⟨this.le l1, hb⟩
  | [], _, _, hK => exact hK.elim
  | _ :: _ :: _, _, _, hK => exact hK.elim
theorem sCmp_ok {f : FuncId} (hc : ∀ w u v x y a b, T.FA w u x → T.FA w v y → Fits a x → Fits b y → a ≤ 2432 → b ≤ 2432 → Calls P f #[u, v] w (fun e w' => e = .returned (.int .i64 (cmpR x y)) ∧ Below w.heap.size w w')) : SOk T P f sCmp := by
  intro w0 ρ s w avs vs H hav K hK
  match avs, vs, hav, hK with
  | [x, y], [u, v], ⟨hx, hy, _⟩, hK =>
    have hK : (withFrac x s fun i _ s => withFrac y s fun j _ s => mkI s .i64 (.cmp i j) (-1) 1).vc T.txt ρ.m K := hK
    obtain ⟨ρ1, t1, i, a, qx, hK, l1, H1, q1, f1, b1, c1⟩ := withFrac_ok H hx hK
    obtain ⟨ρ2, t2, j, b, qy, hK, l2, H2, q2, f2, b2, c2⟩ := withFrac_ok H1 (ARel.mono l1 hy) hK
    refine Calls.mono (hc w u v qx qy a b f1 f2 b1 b2 c1 c2) ?_
    rintro e w' ⟨rfl, hb⟩
    have := mkI_end H2 hb (by simp only [ID.ev]; exact (cmp_bd _ _).1) (by simp only [ID.ev]; exact (cmp_bd _ _).2) hK
    simp only [ID.ev, getQ (le_q l2 q1), getQ q2] at this
    exact ⟨this.le (l1.trans l2), hb⟩
  | [], _, _, hK => exact hK.elim
  | [_], _, _, hK => exact hK.elim
  | _ :: _ :: _ :: _, _, _, hK => exact hK.elim
theorem sText_ok {f : FuncId} (hc : ∀ w u x a, T.FA w u x → Fits a x → a ≤ 2432 → T.E w → Calls P f #[u] w (fun e w' => e = .returned (.string ⟨(T.txt x).toArray⟩) ∧ Below w.heap.size w w')) : SOk T P f sText := by
  intro w0 ρ s w avs vs H hav K hK
  match avs, vs, hav, hK with
  | [x], [u], ⟨hx, _⟩, hK =>
    have hK : (withFrac x s fun i _ s => .letS (.txt i) (.leaf (.v (.c (.sv s.nS)), s.addS))).vc T.txt ρ.m K := hK
    obtain ⟨ρ1, t1, i, a, qx, hK, l1, H1, q1, f1, b1, c1⟩ := withFrac_ok H hx hK
    refine Calls.mono (hc w u qx a f1 b1 c1 H.env) ?_
    rintro e w' ⟨rfl, hb⟩
    have hK := hK _ rfl
    refine ⟨⟨ρ1.withM (ρ1.m.pushS (T.txt (ρ1.m.q i))), _, _, _, hK, l1.trans (Env.le_withM (M.le_pushS _ _)), (H1.pushS _).world hb, ⟨T.txt (ρ1.m.q i), ?_, rfl⟩, by rw [getQ q1]⟩, hb⟩
    show (ρ1.m.S ++ [T.txt (ρ1.m.q i)])[t1.nS]? = some _
    rw [← H1.m.nS]; simp
  | [], _, _, hK => exact hK.elim
  | _ :: _ :: _, _, _, hK => exact hK.elim
theorem sInt_ok {f : FuncId} (hn : ∀ (k : Nat) (n : Int), n.natAbs < 2 ^ k → 1 ≤ k → Fits k (n : Rat)) (hc : ∀ w (n : Int), -9223372036854775808 ≤ n → n ≤ 9223372036854775807 → Calls P f #[.int .i64 n] w (fun e w' => ∃ r, e = .returned r ∧ T.FA w' r (n : Rat) ∧ Below w.heap.size w w')) : SOk T P f sInt := by
  intro w0 ρ s w avs vs H hav K hK
  unfold sInt at hK
  split at hK
  · rename_i x
    match vs, hav with
    | [u], ⟨hx, _⟩ =>
      split at hK
      · rename_i a ha
        have hu := numOf_rel hx ha
        subst hu
        split at hK
        · rename_i lo hi hr
          have hb := rangeOf_ok H.m' hr
          split at hK
          · rename_i hbd
            split at hK
            · rename_i n hn2
              have h2 := bitsOf_ok hn2 hb.1 hb.2
              refine Calls.mono (hc w (a.ev ρ.m) (by omega) (by omega)) ?_
              rintro e w' ⟨r, rfl, hr, hbw⟩
              obtain ⟨ρ', s', k1, k2, k3, k4⟩ := mkQ_ok H hbw hK rfl hr (hn _ _ h2.1 h2.2)
              exact ⟨⟨ρ', _, s', r, k1, k2, k3, k4, rfl⟩, hbw⟩
            · exact hK.elim
          · exact hK.elim
        · exact hK.elim
      · exact hK.elim
  · exact hK.elim
theorem sNew_ok {f : FuncId} (hn : ∀ (k l : Nat) (n d : Int), n.natAbs < 2 ^ k → d.natAbs < 2 ^ l → 1 ≤ k → 1 ≤ l → Fits (k + l) ((n : Rat) / (d : Rat)))
    (hc : ∀ w (n d : Int), -9223372036854775808 ≤ n → n ≤ 9223372036854775807 → -9223372036854775808 ≤ d → d ≤ 9223372036854775807 → d ≠ 0 → T.E w → Calls P f #[.int .i64 n, .int .i64 d] w (fun e w' => ∃ r, e = .returned (.tuple #[r, .int .i64 0]) ∧ T.FA w' r ((n : Rat) / (d : Rat)) ∧ Below w.heap.size w w')) : SOk T P f sNew := by
  intro w0 ρ s w avs vs H hav K hK
  unfold sNew at hK
  split at hK
  · rename_i x y
    match vs, hav with
    | [u, v], ⟨hx, hy, _⟩ =>
      split at hK
      · rename_i a b ha hb
        have hu := numOf_rel hx ha
        have hv := numOf_rel hy hb
        subst hu; subst hv
        split at hK
        · rename_i al ah bl bh ra rb
          have ba := rangeOf_ok H.m' ra
          have bb := rangeOf_ok H.m' rb
          split at hK
          · rename_i hbd
            split at hK
            · rename_i n k n1 n2
              have h1 := bitsOf_ok n1 ba.1 ba.2
              have h2 := bitsOf_ok n2 bb.1 bb.2
              have key : b.ev ρ.m ≠ 0 → (mkQ s (.frac a b) (n + k) okTup).vc T.txt ρ.m K → Calls P f #[.int .i64 (a.ev ρ.m), .int .i64 (b.ev ρ.m)] w (fun e w' => Got T w0 ρ K e w' ∧ Below w.heap.size w w') := by
                intro h0 hK
                refine Calls.mono (hc w (a.ev ρ.m) (b.ev ρ.m) (by omega) (by omega) (by omega) (by omega) h0 H.env) ?_
                rintro e w' ⟨r, rfl, hr, hbw⟩
                obtain ⟨ρ', s', k1, k2, k3, k4⟩ := mkQ_ok H hbw hK rfl hr (hn _ _ _ _ h1.1 h2.1 h1.2 h2.2)
                exact ⟨⟨ρ', _, s', _, k1, k2, k3, okTup_rel k4, rfl⟩, hbw⟩
              split at hK
              · exact key (by omega) hK
              · obtain ⟨h0, hK⟩ := hK
                refine key ?_ hK
                have h0 : (!decide (b.ev ρ.m = 0)) = true := h0
                simpa using h0
            · exact hK.elim
          · exact hK.elim
        · exact hK.elim
      · exact hK.elim
  · exact hK.elim
theorem sDiv_ok {f : FuncId} (hn : ∀ a b x y, Fits a x → Fits b y → Fits (a + b) (x / y))
    (hc : ∀ w u v x y a b, T.FA w u x → T.FA w v y → Fits a x → Fits b y → a ≤ 2432 → b ≤ 2432 → y ≠ 0 → T.E w → Calls P f #[u, v] w (fun e w' => ∃ r, e = .returned (.tuple #[r, .int .i64 0]) ∧ T.FA w' r (x / y) ∧ Below w.heap.size w w'))
    (hz : ∀ w u v x, T.FA w u x → T.FA w v 0 → Calls P f #[u, v] w (fun e w' => e = .returned (.tuple #[.agg #[.bool false, .slice none 0 0, .slice none 0 0], .int .i64 3]) ∧ Below w.heap.size w w')) : SOk T P f sDiv := by
  intro w0 ρ s w avs vs H hav K hK
  match avs, vs, hav, hK with
  | [x, y], [u, v], ⟨hx, hy, _⟩, hK =>
    have hK : (withFrac x s fun i a s => withFrac y s fun j b s => .letB (.zero j) (.ifB s.nB (.leaf (.tup [.agg [.bl false, .nsl, .nsl], .c (.il .i64 3)], s.addB)) (mkD s.addB (.div i j) (a + b) okTup))).vc T.txt ρ.m K := hK
    obtain ⟨ρ1, t1, i, a, qx, hK, l1, H1, q1, f1, b1, c1⟩ := withFrac_ok H hx hK
    obtain ⟨ρ2, t2, j, b, qy, hK, l2, H2, q2, f2, b2, c2⟩ := withFrac_ok H1 (ARel.mono l1 hy) hK
    have hK := hK _ rfl
    have H3 := H2.pushB ((BD.zero j).ev ρ2.m)
    have l3 : ρ2.le (ρ2.withM (ρ2.m.pushB ((BD.zero j).ev ρ2.m))) := Env.le_withM (M.le_pushB _ _)
    have hbit : (ρ2.m.pushB ((BD.zero j).ev ρ2.m)).b t2.nB = decide (qy = 0) := by
      unfold M.b M.pushB
      simp only [BD.ev, getQ q2]
      rw [← H2.m.nB]
      simp [List.getD_eq_getElem?_getD]
    by_cases h0 : qy = 0
    · have hK := hK.1 (by rw [hbit]; simpa using h0)
      subst h0
      refine Calls.mono (hz w u v qx f1 f2) ?_
      rintro e w' ⟨rfl, hb⟩
      exact ⟨⟨ρ2.withM (ρ2.m.pushB ((BD.zero j).ev ρ2.m)), .tup [.agg [.bl false, .nsl, .nsl], .c (.il .i64 3)], t2.addB, _, hK, (l1.trans l2).trans l3, H3.world hb, ⟨[.agg #[.bool false, .slice none 0 0, .slice none 0 0], .int .i64 3], rfl, ⟨[.bool false, .slice none 0 0, .slice none 0 0], rfl, rfl, rfl, rfl, trivial⟩, rfl, trivial⟩, rfl⟩, hb⟩
    · have hK := hK.2 (by rw [hbit]; simpa using h0)
      refine Calls.mono (hc w u v qx qy a b f1 f2 b1 b2 c1 c2 h0 H.env) ?_
      rintro e w' ⟨r, rfl, hr, hb⟩
      have e1 : (ρ2.withM (ρ2.m.pushB ((BD.zero j).ev ρ2.m))).m.q i = qx := getQ (le_q l3 (le_q l2 q1))
      have e2 : (ρ2.withM (ρ2.m.pushB ((BD.zero j).ev ρ2.m))).m.q j = qy := getQ (le_q l3 q2)
      obtain ⟨ρ', s', k1, k2, k3, k4⟩ := mkD_ok H3 hb hK (by simp only [QD.ev]; rw [e1, e2]) hr (hn _ _ _ _ b1 b2)
      exact ⟨⟨ρ', _, s', _, k1, ((l1.trans l2).trans l3).trans k2, k3, okTup_rel k4, rfl⟩, hb⟩
  | [], _, _, hK => exact hK.elim
  | [_], _, _, hK => exact hK.elim
  | _ :: _ :: _ :: _, _, _, hK => exact hK.elim
theorem sInv_ok {f : FuncId} (hn : ∀ a x, Fits a x → x ≠ 0 → Fits a x⁻¹)
    (hc : ∀ w u x a, T.FA w u x → Fits a x → a ≤ 2432 → x ≠ 0 → T.E w → Calls P f #[u] w (fun e w' => ∃ r, e = .returned r ∧ T.FA w' r x⁻¹ ∧ Below w.heap.size w w')) : SOk T P f sInv := by
  intro w0 ρ s w avs vs H hav K hK
  match avs, vs, hav, hK with
  | [x], [u], ⟨hx, _⟩, hK =>
    have hK : (withFrac x s fun i a s => .letB (.zero i) (.ifB s.nB (.fail "inverse of 0") (mkQ s.addB (.inv i) a one))).vc T.txt ρ.m K := hK
    obtain ⟨ρ2, t2, i, a, qx, hK, l2, H2, q2, f2, b2, c2⟩ := withFrac_ok H hx hK
    have hK := hK _ rfl
    have H3 := H2.pushB ((BD.zero i).ev ρ2.m)
    have l3 : ρ2.le (ρ2.withM (ρ2.m.pushB ((BD.zero i).ev ρ2.m))) := Env.le_withM (M.le_pushB _ _)
    have hbit : (ρ2.m.pushB ((BD.zero i).ev ρ2.m)).b t2.nB = decide (qx = 0) := by
      unfold M.b M.pushB
      simp only [BD.ev, getQ q2]
      rw [← H2.m.nB]
      simp [List.getD_eq_getElem?_getD]
    by_cases h0 : qx = 0
    · have hK := hK.1 (by rw [hbit]; simpa using h0)
      exact hK.elim
    · have hK := hK.2 (by rw [hbit]; simpa using h0)
      refine Calls.mono (hc w u qx a f2 b2 c2 h0 H.env) ?_
      rintro e w' ⟨r, rfl, hr, hb⟩
      have e2 : (ρ2.withM (ρ2.m.pushB ((BD.zero i).ev ρ2.m))).m.q i = qx := getQ (le_q l3 q2)
      obtain ⟨ρ', s', k1, k2, k3, k4⟩ := mkQ_ok H3 hb hK (by simp only [QD.ev]; rw [e2]) hr (hn _ _ b2 h0)
      exact ⟨⟨ρ', _, s', _, k1, (l2.trans l3).trans k2, k3, k4, rfl⟩, hb⟩
  | [], _, _, hK => exact hK.elim
  | _ :: _ :: _, _, _, hK => exact hK.elim
/-- A number that nothing in memory stands for. -/
theorem SRel.pushQ0 {ρ : Env} {s : St} {w : World} (H : SRel T w0 ρ s w) {q : Rat} {k : Nat} (hk : Fits' k q) : SRel T w0 (ρ.withM (ρ.m.pushQ q)) (s.addF k) w := by
  have hle := M.le_pushQ ρ.m q
  have hM := H.m
  refine ⟨{ nI := hM.nI, nB := hM.nB, nS := hM.nS, nQ := by simp [Env.withM, M.pushQ, St.addF_eq, Sq.push, hM.nQ], rng := hM.rng, fit := ?_, frac := ?_, fresh := hM.fresh, freshF := ?_, freshC := hM.freshC, cls := ?_, oneC := hM.oneC }, H.h.math hle, H.l.later (Env.le_withM hle) (.refl _)⟩
  · intro i k' x e1 e2
    rcases Sq.get_push (q := s.fit) e1 with ⟨_, e1⟩ | ⟨e1, e3⟩ <;> rcases snoc_get e2 with e2 | ⟨e2, e4⟩
    · exact hM.fit i k' x e1 e2
    · have := Sq.get_lt e1; have := hM.nQ; omega
    · have := (List.getElem?_eq_some_iff.1 e2).1; have := hM.nQ; omega
    · subst e3; subst e4; exact hk
  · intro i x e
    obtain ⟨q', k', h1, h3, h2⟩ := hM.frac i x e
    exact ⟨q', k', getElem?_snoc _ _ _ _ h1, Sq.get_push_old h3, h2⟩
  · intro i hi
    have hi : s.fit.n + 1 ≤ i := hi
    exact hM.freshF i (by omega)
  · intro i f caps e
    obtain ⟨cs, h1, h2⟩ := hM.cls i f caps e
    exact ⟨cs, h1, h2.mono fun _ _ => CRel.mono (Env.le_withM hle)⟩
/-- The text of a number, which is looked up for 1. -/
def sText1 : List AV → St → Tree (TV × St)
  | [x], s => withFrac x s fun i _ s => .letQ (.int (.l 1)) (.letB (.same i s.fit.n) (.ifB s.nB (.leaf (.v (.c (.sl [49])), (s.addF 1).addB)) (.letS (.txt i) (.leaf (.v (.c (.sv s.nS)), (s.addF 1).addB.addS)))))
  | _, _ => .fail "text"
theorem sText1_ok {f : FuncId} (h1 : T.txt 1 = [49]) (hc : ∀ w u x a, T.FA w u x → Fits a x → a ≤ 2432 → T.E w → Calls P f #[u] w (fun e w' => e = .returned (.string ⟨(T.txt x).toArray⟩) ∧ Below w.heap.size w w')) : SOk T P f sText1 := by
  intro w0 ρ s w avs vs H hav K hK
  match avs, vs, hav, hK with
  | [x], [u], ⟨hx, _⟩, hK =>
    have hK : (withFrac x s fun i _ s => .letQ (.int (.l 1)) (.letB (.same i s.fit.n) (.ifB s.nB (.leaf (.v (.c (.sl [49])), (s.addF 1).addB)) (.letS (.txt i) (.leaf (.v (.c (.sv s.nS)), (s.addF 1).addB.addS)))))).vc T.txt ρ.m K := hK
    obtain ⟨ρ1, t1, i, a, qx, hK, l1, H1, q1, f1, b1, c1⟩ := withFrac_ok H hx hK
    refine Calls.mono (hc w u qx a f1 b1 c1 H.env) ?_
    rintro e w' ⟨rfl, hb⟩
    have hK := hK 1 rfl _ rfl
    have H2 := H1.pushQ0 (q := 1) (k := 1) (fits_lt' ⟨by decide, by decide⟩ (by decide))
    have l2 : ρ1.le (ρ1.withM (ρ1.m.pushQ 1)) := Env.le_withM (M.le_pushQ _ _)
    have q2 : (ρ1.withM (ρ1.m.pushQ 1)).m.Q[i]? = some qx := le_q l2 q1
    have e1 : (ρ1.m.pushQ 1).q t1.fit.n = 1 := getQ (show (ρ1.m.Q ++ [1])[t1.fit.n]? = some 1 by rw [← H1.m.nQ]; simp)
    have H3 := H2.pushB ((BD.same i t1.fit.n).ev (ρ1.m.pushQ 1))
    have l3 : (ρ1.withM (ρ1.m.pushQ 1)).le ((ρ1.withM (ρ1.m.pushQ 1)).withM ((ρ1.m.pushQ 1).pushB ((BD.same i t1.fit.n).ev (ρ1.m.pushQ 1)))) := Env.le_withM (M.le_pushB _ _)
    have hbit : ((ρ1.m.pushQ 1).pushB ((BD.same i t1.fit.n).ev (ρ1.m.pushQ 1))).b t1.nB = decide (qx = 1) := by
      unfold M.b
      have hn : (ρ1.m.pushQ 1).B.length = t1.nB := H1.m.nB
      simp only [BD.ev, e1, getQ (m := ρ1.m.pushQ 1) q2, M.pushB]
      rw [← hn]
      simp [List.getD_eq_getElem?_getD]
    by_cases h0 : qx = 1
    · have hK := hK.1 (by rw [hbit]; simpa using h0)
      subst h0
      rw [h1]
      exact ⟨⟨(ρ1.withM (ρ1.m.pushQ 1)).withM ((ρ1.m.pushQ 1).pushB ((BD.same i t1.fit.n).ev (ρ1.m.pushQ 1))), .v (.c (.sl [49])), _, .string ⟨[49].toArray⟩, hK, (l1.trans l2).trans l3, H3.world hb, rfl, rfl⟩, hb⟩
    · have hK := hK.2 (by rw [hbit]; simpa using h0)
      have hK := hK _ rfl
      have eq3 : ((ρ1.m.pushQ 1).pushB ((BD.same i t1.fit.n).ev (ρ1.m.pushQ 1))).q i = qx := getQ (le_q l3 q2)
      refine ⟨⟨((ρ1.withM (ρ1.m.pushQ 1)).withM ((ρ1.m.pushQ 1).pushB ((BD.same i t1.fit.n).ev (ρ1.m.pushQ 1)))).withM (((ρ1.m.pushQ 1).pushB ((BD.same i t1.fit.n).ev (ρ1.m.pushQ 1))).pushS ((SD.txt i).ev T.txt ((ρ1.m.pushQ 1).pushB ((BD.same i t1.fit.n).ev (ρ1.m.pushQ 1))))), .v (.c (.sv t1.nS)), _, _, hK, ((l1.trans l2).trans l3).trans (Env.le_withM (M.le_pushS _ _)), (H3.pushS _).world hb, ⟨T.txt qx, ?_, rfl⟩, rfl⟩, hb⟩
      show (ρ1.m.S ++ [(SD.txt i).ev T.txt _])[t1.nS]? = some _
      rw [show (SD.txt i).ev T.txt ((ρ1.m.pushQ 1).pushB ((BD.same i t1.fit.n).ev (ρ1.m.pushQ 1))) = T.txt qx from congrArg T.txt eq3]
      rw [← H1.m.nS]; simp
  | [], _, _, hK => exact hK.elim
  | _ :: _ :: _, _, _, hK => exact hK.elim
/-- A table of known functions. -/
theorem tab_ok : ∀ {l : List (FuncId × (List AV → St → Tree (TV × St)))}, (∀ p ∈ l, SOk T P p.1 p.2) → SumsOk T P (look l)
  | [], _ => fun f r h => by cases h
  | (g, r0) :: l, H => fun f r h => by
    unfold look at h
    split at h
    · rename_i e; subst e; cases h; exact H (f, r0) (List.mem_cons_self ..)
    · exact tab_ok (l := l) (fun p hp => H p (List.mem_cons_of_mem _ hp)) f r h
end
end Go.Proofs.VM
namespace Go.Proofs.VM
open Go.RowKit
noncomputable section
variable {T : FT} {w0 : World} {P : Program}

/-! ### Sums of lists of fractions -/
def frs : List CV → Option (List (Option Nat))
  | [] => some []
  | .fc i 0 :: .fc j 1 :: .fc l 2 :: r => if i = j ∧ i = l then (frs r).map (some i :: ·) else none
  | .bl false :: .nsl :: .nsl :: r => (frs r).map (none :: ·)
  | _ => none
def fqs (m : M) (l : List (Option Nat)) : List Rat := l.map fun o => match o with
  | some i => m.q i
  | none => 0
def fks (fit : Sq Nat) : List (Option Nat) → Option (List Nat)
  | [] => some []
  | some i :: l => match fit.get i, fks fit l with
    | some k, some r => if k ≤ 2432 then some (k :: r) else none
    | _, _ => none
  | none :: l => (fks fit l).map (1 :: ·)
/-- Fractions one behind the other. -/
def Rowed (T : FT) (w : World) : List Value → List Rat → Prop
  | [], [] => True
  | a :: b :: c :: vs, q :: qs => T.FA w (.agg #[a, b, c]) q ∧ Rowed T w vs qs
  | _, _ => False
theorem frs_ok {ρ : Env} {s : St} {w : World} (H : MRel T ρ s w) : ∀ {cs : List CV} {vs : List Value} {l : List (Option Nat)} {ks : List Nat}, frs cs = some l → fks s.fit l = some ks → All2 (CRel ρ) cs vs → Rowed T w vs (fqs ρ.m l)
  | [], [], l, _, h, _, _ => by unfold frs at h; cases h; trivial
  | .fc i 0 :: .fc j 1 :: .fc k 2 :: r, a :: b :: c :: vs, l, ks, h, hk, ⟨⟨t, e0, h0⟩, ⟨t1, e1, h1⟩, ⟨t2, e2, h2⟩, h3⟩ => by
    have h5 : (if i = j ∧ i = k then (frs r).map (some i :: ·) else none) = some l := by rw [frs] at h; exact h
    clear h
    split at h5
    · rename_i he
      obtain ⟨rfl, rfl⟩ := he
      obtain ⟨l', hl, rfl⟩ := Option.map_eq_some_iff.1 h5
      rw [e0] at e1 e2
      cases e1; cases e2
      subst h0; subst h1; subst h2
      obtain ⟨q, k', hq, hk', hf⟩ := H.frac i t e0
      unfold fks at hk
      rw [hk'] at hk
      split at hk
      · rename_i k2 r2 g1 g2
        split at hk
        · rename_i hle
          cases g1
          refine ⟨?_, frs_ok H hl g2 h3⟩
          show T.FA w (.agg #[t.1, t.2.1, t.2.2]) (ρ.m.q i)
          rw [getQ hq]; exact hf.fa hle
        · cases hk
      · cases hk
    · cases h5
  | .bl false :: .nsl :: .nsl :: r, a :: b :: c :: vs, l, ks, h, hk, ⟨h0, h1, h2, h3⟩ => by
    have h : (frs r).map (none :: ·) = some l := by rw [frs] at h; exact h
    obtain ⟨l', hl, rfl⟩ := Option.map_eq_some_iff.1 h
    have h0 : a = .bool false := h0
    have h1 : b = .slice none 0 0 := h1
    have h2 : c = .slice none 0 0 := h2
    subst h0; subst h1; subst h2
    unfold fks at hk
    obtain ⟨r2, hk2, _⟩ := Option.map_eq_some_iff.1 hk
    exact ⟨T.zero w, frs_ok H hl hk2 h3⟩
termination_by cs => cs.length
theorem Rowed.at_ {w : World} : ∀ {vs : List Value} {qs : List Rat}, Rowed T w vs qs → ∀ i (hi : i < qs.length), ∃ a b c, vs[i * 3]? = some a ∧ vs[i * 3 + 1]? = some b ∧ vs[i * 3 + 2]? = some c ∧ T.FA w (.agg #[a, b, c]) qs[i]
  | [], [], _, i, hi => absurd hi (by simp)
  | a :: b :: c :: vs, q :: qs, ⟨h, _⟩, 0, _ => ⟨a, b, c, rfl, rfl, rfl, h⟩
  | a :: b :: c :: vs, q :: qs, ⟨_, h⟩, i + 1, hi => by
    obtain ⟨x, y, z, h1, h2, h3, h4⟩ := Rowed.at_ h i (by simpa using hi)
    refine ⟨x, y, z, ?_, ?_, ?_, h4⟩
    · rw [show (i + 1) * 3 = i * 3 + 1 + 1 + 1 by omega]; simpa using h1
    · rw [show (i + 1) * 3 + 1 = i * 3 + 1 + 1 + 1 + 1 by omega]; simpa using h2
    · rw [show (i + 1) * 3 + 2 = i * 3 + 2 + 1 + 1 + 1 by omega]; simpa using h3
theorem Rowed.len {w : World} : ∀ {vs : List Value} {qs : List Rat}, Rowed T w vs qs → vs.length = qs.length * 3
  | [], [], _ => rfl
  | _ :: _ :: _ :: vs, _ :: qs, ⟨_, h⟩ => by simp [Rowed.len h]; omega
theorem fks_ok {ρ : Env} {s : St} {w : World} (H : MRel T ρ s w) : ∀ {l : List (Option Nat)} {ks : List Nat}, fks s.fit l = some ks → All2 Fits ks (fqs ρ.m l)
  | [], ks, h => by unfold fks at h; cases h; trivial
  | some i :: l, ks, h => by
    unfold fks at h
    split at h
    · rename_i k r h1 h2
      split at h
      rotate_left
      · cases h
      rename_i hle
      cases h
      refine ⟨?_, fks_ok H h2⟩
      obtain ⟨q, hq⟩ : ∃ q, ρ.m.Q[i]? = some q := by
        have := Sq.get_lt h1
        exact ⟨_, List.getElem?_eq_getElem (by rw [H.nQ]; exact this)⟩
      show Fits k (ρ.m.q i)
      rw [getQ hq]; exact fits_lt (H.fit i k q h1 hq) hle
    · cases h
  | none :: l, ks, h => by
    unfold fks at h
    obtain ⟨r, h2, rfl⟩ := Option.map_eq_some_iff.1 h
    exact ⟨show Fits 1 (0 : Rat) from ⟨by decide, by decide⟩, fks_ok H h2⟩
theorem fqs_sum (m : M) : ∀ l : List (Option Nat), sumR (fqs m l) = sumR ((l.filterMap id).map m.q)
  | [] => rfl
  | some i :: l => by
    show m.q i + sumR (fqs m l) = _
    rw [fqs_sum m l]; rfl
  | none :: l => by
    show 0 + sumR (fqs m l) = _
    rw [fqs_sum m l]
    show 0 + sumR ((l.filterMap id).map m.q) = sumR ((l.filterMap id).map m.q)
    grind
def sumOf (l : List Nat) : Nat := l.foldr (· + ·) 0
def sSum1 (b off n : Nat) (s : St) : Tree (TV × St) := match look s.heap b with
  | some blk => match frs ((blk.cells.drop off).take (n * 3)) with
    | some l => if l.length = n ∧ 0 < n ∧ n ≤ 1048576 then (match fks s.fit l with
      | some ks => mkQ s (.sum (l.filterMap id)) (sumOf ks + ks.length + 1) one
      | none => .fail "sum") else .fail "sum: length"
    | none => .fail "sum: cells"
  | none => .fail "sum: block"
def sSum : List AV → St → Tree (TV × St)
  | [.c .nsl], s => mkQ s .zero 1 one
  | [.c (.sc b off n c)], s => if n ≤ c then sSum1 b off n s else .fail "sum: room"
  | [.c (.sr b off n _ _)], s => sSum1 b off n s
  | [.c (.sg b off n _)], s => sSum1 b off n s
  | _, _ => .fail "sum"
theorem BlkAt.cells {ρ : Env} {w : World} {id : Nat} {b : Blk} (h : BlkAt w0 ρ w id b) (hs : w0.heap.size ≤ w.heap.size) : ∃ g o vs, ρ.blk id = some (g, o) ∧ All2 (CRel ρ) b.cells vs ∧ (∀ j v, vs[j]? = some v → w.cell? ⟨g, o + j, none⟩ = some v) ∧ g < w.heap.size := by
  cases e : b.own with
  | true =>
    obtain ⟨g, cs, h1, h2, h3, _⟩ := h.1 e
    refine ⟨g, 0, cs.toList.take b.cells.length, h1, h3, fun j v hv => ?_, lt_of_heap h2⟩
    rw [List.getElem?_take] at hv
    split at hv
    · rw [Nat.zero_add, World.cell?, h2]
      simpa using hv
    · cases hv
  | false =>
    obtain ⟨g, o, vs, h1, h2, h3, h4⟩ := h.2 e
    exact ⟨g, o, vs, h1, h3, h2, by omega⟩
theorem sSum1_ok {f : FuncId} (hfit : ∀ ks qs, All2 Fits ks qs → Fits (sumOf ks + ks.length + 1) (sumR qs))
    (hc : ∀ w g o c (qs : List Rat) (ks : List Nat), 0 < qs.length → qs.length ≤ c → qs.length ≤ 1048576 → g < w.heap.size → (∀ i (hi : i < qs.length), ∃ v0 v1 v2, w.cell? ⟨g, o + i * 3, none⟩ = some v0 ∧ w.cell? ⟨g, o + i * 3 + 1, none⟩ = some v1 ∧ w.cell? ⟨g, o + i * 3 + 2, none⟩ = some v2 ∧ T.FA w (.agg #[v0, v1, v2]) qs[i]) → All2 Fits ks qs → sumOf ks + ks.length + 1 ≤ 2432 → T.E w →
      Calls P f #[.slice (some ⟨g, o, none⟩) qs.length c] w (fun e w' => ∃ r, e = .returned r ∧ T.FA w' r (sumR qs) ∧ Below w.heap.size w w')) {ρ : Env} {s : St} {w : World} (H : SRel T w0 ρ s w) {b off n c g' o' : Nat} (hgo : ρ.blk b = some (g', o')) (hnc : n ≤ c) {K : TV × St → M → Prop} (hK : (sSum1 b off n s).vc T.txt ρ.m K) :
    Calls P f #[.slice (some ⟨g', o' + off, none⟩) n c] w (fun e w' => Got T w0 ρ K e w' ∧ Below w.heap.size w w') := by
  unfold sSum1 at hK
  split at hK
  · rename_i blk hblk
    split at hK
    · rename_i l hl
      split at hK
      · rename_i hcond
        split at hK
        · rename_i ks hks
          obtain ⟨g, o, vs, h1, h2, h3, h4⟩ := (H.h.heap b blk hblk).cells H.h.below.size
          rw [hgo] at h1; cases h1
          have hr := frs_ok H.m hl hks ((h2.drop off).take (n * 3))
          have hf := fks_ok H.m hks
          have hlen : (fqs ρ.m l).length = n := by unfold fqs; rw [List.length_map]; exact hcond.1
          have hle : sumOf ks + ks.length + 1 ≤ 2432 := by unfold mkQ at hK; split at hK; assumption; exact hK.elim
          have hcall := hc w g' (o' + off) c (fqs ρ.m l) ks (by omega) (by omega) (by omega) h4 (fun i hi => by
            obtain ⟨v0, v1, v2, e0, e1, e2, hfa⟩ := hr.at_ i hi
            have hget : ∀ j v, ((vs.drop off).take (n * 3))[j]? = some v → w.cell? ⟨g', o' + off + j, none⟩ = some v := fun j v hv => by
              rw [List.getElem?_take] at hv
              split at hv
              · rw [List.getElem?_drop] at hv
                rw [Nat.add_assoc]; exact h3 _ _ hv
              · cases hv
            exact ⟨v0, v1, v2, hget _ _ e0, hget _ _ e1, hget _ _ e2, hfa⟩) hf hle H.env
          rw [hlen] at hcall
          refine Calls.mono hcall ?_
          rintro e w' ⟨r, rfl, hr, hb⟩
          obtain ⟨ρ', s', k1, k2, k3, k4⟩ := mkQ_ok H hb hK (by simp only [QD.ev]; exact fqs_sum ρ.m l) hr (hfit _ _ hf)
          exact ⟨⟨ρ', _, s', r, k1, k2, k3, k4, rfl⟩, hb⟩
        · exact hK.elim
      · exact hK.elim
    · exact hK.elim
  · exact hK.elim
theorem sSum_ok {f : FuncId} (hfit : ∀ ks qs, All2 Fits ks qs → Fits (sumOf ks + ks.length + 1) (sumR qs))
    (hn : ∀ w, Calls P f #[.slice none 0 0] w (fun e w' => ∃ r, e = .returned r ∧ T.FA w' r 0 ∧ Below w.heap.size w w'))
    (hc : ∀ w g o c (qs : List Rat) (ks : List Nat), 0 < qs.length → qs.length ≤ c → qs.length ≤ 1048576 → g < w.heap.size → (∀ i (hi : i < qs.length), ∃ v0 v1 v2, w.cell? ⟨g, o + i * 3, none⟩ = some v0 ∧ w.cell? ⟨g, o + i * 3 + 1, none⟩ = some v1 ∧ w.cell? ⟨g, o + i * 3 + 2, none⟩ = some v2 ∧ T.FA w (.agg #[v0, v1, v2]) qs[i]) → All2 Fits ks qs → sumOf ks + ks.length + 1 ≤ 2432 → T.E w →
      Calls P f #[.slice (some ⟨g, o, none⟩) qs.length c] w (fun e w' => ∃ r, e = .returned r ∧ T.FA w' r (sumR qs) ∧ Below w.heap.size w w')) : SOk T P f sSum := by
  intro w0 ρ s w avs vs H hav K hK
  unfold sSum at hK
  split at hK
  · match vs, hav with
    | [u], ⟨hx, _⟩ =>
      have hx : u = .slice none 0 0 := hx
      subst hx
      refine Calls.mono (hn w) ?_
      rintro e w' ⟨r, rfl, hr, hb⟩
      obtain ⟨ρ', s', k1, k2, k3, k4⟩ := mkQ_ok H hb hK (q := 0) rfl hr ⟨by decide, by decide⟩
      exact ⟨⟨ρ', _, s', r, k1, k2, k3, k4, rfl⟩, hb⟩
  · rename_i b off n c
    match vs, hav with
    | [u], ⟨hx, _⟩ =>
      obtain ⟨g', o', hgo, rfl⟩ := (hx : ∃ g o, ρ.blk b = some (g, o) ∧ u = .slice (some ⟨g, o + off, none⟩) n c)
      split at hK
      · rename_i hnc
        exact sSum1_ok hfit hc H hgo hnc hK
      · exact hK.elim
  · rename_i b off n i d
    match vs, hav with
    | [u], ⟨hx, _⟩ =>
      obtain ⟨g', o', k, hgo, _, hle, rfl⟩ := (hx : ∃ g o k, ρ.blk b = some (g, o) ∧ ρ.m.I[i]? = some k ∧ n + d ≤ k.toNat ∧ u = .slice (some ⟨g, o + off, none⟩) n (k.toNat - d))
      exact sSum1_ok hfit hc H hgo (by omega) hK
  · rename_i b off n d
    match vs, hav with
    | [u], ⟨hx, _⟩ =>
      obtain ⟨g', o', c, z, hgo, h1, h2, rfl⟩ := (hx : ∃ g o c z, ρ.blk b = some (g, o) ∧ ρ.blk (b + 1) = some (c, z) ∧ n + d ≤ c ∧ u = .slice (some ⟨g, o + off, none⟩) n (c - d))
      exact sSum1_ok hfit hc H hgo (by omega) hK
  · exact hK.elim
end
end Go.Proofs.VM
namespace Go.Proofs.VM
open Go.RowKit
noncomputable section
variable {T : FT} {w0 : World} {P : Program}

/-! ### What two numbers have in common -/
def sGcd : List AV → St → Tree (TV × St)
  | [.c x, .c y], s => match numOf x, numOf y with
    | some (.i64, a), some (.i64, b) => match isLit a, isLit b with
      | some n, some k => if -4611686018427387904 ≤ n ∧ n ≤ 4611686018427387904 ∧ -4611686018427387904 ≤ k ∧ k ≤ 4611686018427387904 then .leaf (.v (.c (.il .i64 (n.gcd k : Nat))), s) else .fail "gcd"
      | _, _ => match rangeOf s a, rangeOf s b with
        | some (al, ah), some (bl, bh) => if -4611686018427387904 ≤ al ∧ ah ≤ 4611686018427387904 ∧ -4611686018427387904 ≤ bl ∧ bh ≤ 4611686018427387904 then mkI s .i64 (.gcd a b) 0 (max (max (-al) ah) (max (-bl) bh)) else .need (.le (.l (-4611686018427387904)) a) (.need (.le a (.l 4611686018427387904)) (.need (.le (.l (-4611686018427387904)) b) (.need (.le b (.l 4611686018427387904)) (mkI s .i64 (.gcd a b) 0 4611686018427387904))))
        | _, _ => .fail "gcd"
    | _, _ => .fail "gcd"
  | _, _ => .fail "gcd"
theorem gcd_le_max (a b : Int) : ((a.gcd b : Nat) : Int) ≤ max (a.natAbs : Int) b.natAbs := by
  by_cases h : a = 0
  · subst h; rw [Int.gcd_zero_left]; omega
  · have := Nat.gcd_le_left b.natAbs (show 0 < a.natAbs by omega)
    unfold Int.gcd
    omega
theorem sGcd_ok {f : FuncId} (hc : ∀ w (a b : Int), -4611686018427387904 ≤ a → a ≤ 4611686018427387904 → -4611686018427387904 ≤ b → b ≤ 4611686018427387904 → Calls P f #[.int .i64 a, .int .i64 b] w (fun e w' => e = .returned (.int .i64 (a.gcd b : Nat)) ∧ Below w.heap.size w w')) : SOk T P f sGcd := by
  intro w0 ρ s w avs vs H hav K hK
  unfold sGcd at hK
  split at hK
  · rename_i x y
    match vs, hav with
    | [u, v], ⟨hx, hy, _⟩ =>
      split at hK
      · rename_i a b ha hb
        have hu := numOf_rel hx ha
        have hv := numOf_rel hy hb
        subst hu; subst hv
        split at hK
        · rename_i n k hn hk
          rw [isLit_ev hn, isLit_ev hk]
          split at hK
          · rename_i hbd
            refine Calls.mono (hc w n k hbd.1 hbd.2.1 hbd.2.2.1 hbd.2.2.2) ?_
            rintro e w' ⟨rfl, hb⟩
            exact ⟨⟨ρ, .v (.c (.il .i64 (n.gcd k : Nat))), s, _, hK, .refl _, H.world hb, rfl, rfl⟩, hb⟩
          · exact hK.elim
        · split at hK
          · rename_i al ah bl bh ra rb
            have ba := rangeOf_ok H.m' ra
            have bb := rangeOf_ok H.m' rb
            split at hK
            · rename_i hbd
              refine Calls.mono (hc w (a.ev ρ.m) (b.ev ρ.m) (by omega) (by omega) (by omega) (by omega)) ?_
              rintro e w' ⟨rfl, hb⟩
              have hg := gcd_le_max (a.ev ρ.m) (b.ev ρ.m)
              exact ⟨mkI_end H hb (by simp only [ID.ev]; omega) (by simp only [ID.ev]; omega) hK, hb⟩
            · obtain ⟨n1, n2, n3, n4, hK⟩ := hK
              have n1 : -4611686018427387904 ≤ a.ev ρ.m := of_decide_eq_true n1
              have n2 : a.ev ρ.m ≤ 4611686018427387904 := of_decide_eq_true n2
              have n3 : -4611686018427387904 ≤ b.ev ρ.m := of_decide_eq_true n3
              have n4 : b.ev ρ.m ≤ 4611686018427387904 := of_decide_eq_true n4
              refine Calls.mono (hc w (a.ev ρ.m) (b.ev ρ.m) n1 n2 n3 n4) ?_
              rintro e w' ⟨rfl, hb⟩
              have hg := gcd_le_max (a.ev ρ.m) (b.ev ρ.m)
              exact ⟨mkI_end H hb (by simp only [ID.ev]; omega) (by simp only [ID.ev]; omega) hK, hb⟩
          · exact hK.elim
      · exact hK.elim
  · exact hK.elim

/-! ### Trees of plain numbers -/
def Tree.chk {α : Type} (txt : Rat → List UInt8) : Tree α → M → (α → M → Bool) → Bool
  | .leaf x, m, K => K x m
  | .letI d t, m, K => t.chk txt (m.pushI (d.ev m)) K
  | .letB d t, m, K => t.chk txt (m.pushB (d.ev m)) K
  | .letS d t, m, K => t.chk txt (m.pushS (d.ev txt m)) K
  | .letQ d t, m, K => t.chk txt (m.pushQ (d.ev m)) K
  | .ifB i t f, m, K => match m.b i with
    | true => t.chk txt m K
    | false => f.chk txt m K
  | .need d t, m, K => d.ev m && t.chk txt m K
  | .fail _, _, _ => false
  | .both t f, m, K => t.chk txt m K && f.chk txt m K
theorem Tree.chk_ok {α : Type} {txt : Rat → List UInt8} {K : α → M → Bool} {R : α → M → Prop} (hR : ∀ x m, K x m = true → R x m) : ∀ (t : Tree α) (m : M), t.chk txt m K = true → t.vc txt m R
  | .leaf x, m, h => hR x m h
  | .letI d t, m, h => fun n e => by subst e; exact chk_ok hR t _ h
  | .letB d t, m, h => fun n e => by subst e; exact chk_ok hR t _ h
  | .letS q t, m, h => fun n e => by subst e; exact chk_ok hR t _ h
  | .letQ d t, m, h => fun n e => by subst e; exact chk_ok hR t _ h
  | .ifB i t f, m, h => by
    unfold Tree.chk at h
    refine ⟨fun e => ?_, fun e => ?_⟩
    · rw [e] at h; exact chk_ok hR t m h
    · rw [e] at h; exact chk_ok hR f m h
  | .need d t, m, h => by
    unfold Tree.chk at h
    rw [Bool.and_eq_true] at h
    exact ⟨h.1, chk_ok hR t m h.2⟩
  | .fail _, _, h => by cases h
  | .both t f, m, h => by
    unfold Tree.chk at h
    rw [Bool.and_eq_true] at h
    exact ⟨chk_ok hR t m h.1, chk_ok hR f m h.2⟩
/-- The answer is true. -/
def yesB (r : TV × St) (m : M) : Bool := match r.1 with
  | .v (.c (.bl b)) => b
  | .v (.c (.bv i)) => m.b i
  | _ => false
def Yes (r : TV × St) (m : M) : Prop := yesB r m = true
def st0 : St := ⟨.nil, 0, 0, .nil, 0, [], 0, [], []⟩
/-- At the start: numbers of which ranges are known. -/
def stOf (R : List (Int × Int)) : St := { st0 with rng := Sq.ofList .nil R }
def env0 (l : List Int) : Env := ⟨⟨l, [], [], []⟩, fun _ => none, fun _ => none, fun _ => none⟩
/-- At the beginning: nothing but numbers. -/
theorem SRel.start {w : World} (hE : T.E w) {rs : List (Int × Int)} {l : List Int} (h : All2 (fun (r : Int × Int) (n : Int) => r.1 ≤ n ∧ n ≤ r.2) rs l) : SRel T w (env0 l) (stOf rs) w :=
  have hrng : ∀ (i : Nat) (lo hi n : Int), (Sq.ofList .nil rs).get i = some (lo, hi) → l[i]? = some n → lo ≤ n ∧ n ≤ hi := fun i lo hi n e1 e2 => by
    rcases Sq.get_ofList rs .nil e1 with ⟨h1, _⟩ | ⟨_, e1⟩
    · exact absurd h1 (Nat.not_lt_zero _)
    · have e1 : rs[i]? = some (lo, hi) := e1
      obtain ⟨y, hy, hr⟩ := h.get e1
      rw [hy] at e2; cases e2; exact hr
  ⟨{ nI := by
       show l.length = (Sq.ofList .nil rs).n
       rw [Sq.n_ofList, ← All2.length h]
       exact (Nat.zero_add _).symm
     nB := rfl, nS := rfl, nQ := rfl, rng := hrng, fit := fun i k q e => (nomatch e),
     frac := fun i t e => (by cases e),
     fresh := fun _ _ => rfl, freshF := fun _ _ => rfl, freshC := fun _ _ => rfl,
     cls := fun i f caps e => (nomatch (show (none : Option (FuncId × List CV)) = some (f, caps) from e)),
     oneC := fun i v e => (by cases e) },
   { below := Below.refl _ _, env := hE, heap := fun id b e => (nomatch e), inj := fun i j bi bj g hi => (nomatch hi) }, LRel.nil _ _ _⟩
/-- A function's answer is true whenever the machine's is. -/
theorem yes_of {gen : FuncId → Md} {call : CallF} (hc : COk T P gen call) {f : FuncId} {avs : List AV} {vs : List Value} {w : World} {ρ : Env} {s : St} (H : SRel T w ρ s w) (hav : All2 (ARel ρ) avs vs) (hK : (call f avs s).vc T.txt ρ.m Yes) :
    Calls P f vs.toArray w fun e w' => e = .returned (.bool true) ∧ Below w.heap.size w w' := by
  refine Calls.mono (hc w ρ s w f avs vs H hav Yes hK) ?_
  rintro e w' ⟨⟨ρ', tv, s', v, h1, h2, h3, h4, h5⟩, _⟩
  refine ⟨?_, h3.h.below⟩
  rw [h5]
  congr 1
  obtain ⟨t, s2⟩ := (⟨tv, s'⟩ : TV × St)
  unfold Yes yesB at h1
  split at h1
  · rename_i b e
    simp only at e
    subst e
    have h4 : v = .bool b := h4
    rw [h4, h1]
  · rename_i i e
    simp only at e
    subst e
    obtain ⟨b, hb, h4⟩ := (h4 : ∃ b, ρ'.m.B[i]? = some b ∧ v = .bool b)
    have : ρ'.m.b i = b := by unfold M.b; rw [List.getD_eq_getElem?_getD, hb]; rfl
    rw [h4, ← this, h1]
  · cases h1
theorem Tree.vc_mono {α : Type} {txt : Rat → List UInt8} {K R : α → M → Prop} (hR : ∀ x m, K x m → R x m) : ∀ (t : Tree α) (m : M), t.vc txt m K → t.vc txt m R
  | .leaf x, m, h => hR x m h
  | .letI _ t, _, h => fun n e => vc_mono hR t _ (h n e)
  | .letB _ t, _, h => fun n e => vc_mono hR t _ (h n e)
  | .letS _ t, _, h => fun n e => vc_mono hR t _ (h n e)
  | .letQ _ t, _, h => fun n e => vc_mono hR t _ (h n e)
  | .ifB _ t f, m, h => ⟨fun e => vc_mono hR t m (h.1 e), fun e => vc_mono hR f m (h.2 e)⟩
  | .need _ t, m, h => ⟨h.1, vc_mono hR t m h.2⟩
  | .fail _, _, h => h
  | .both t f, m, h => ⟨vc_mono hR t m h.1, vc_mono hR f m h.2⟩
/-- What a leaf says. -/
inductive Lf where
  | yes | no | bit (i : Nat) | bad
def ansOf (r : TV × St) : Lf := match r.1 with
  | .v (.c (.bl true)) => .yes
  | .v (.c (.bl false)) => .no
  | .v (.c (.bv i)) => .bit i
  | _ => .bad
def Lf.ok (l : Lf) (m : M) : Prop := match l with
  | .yes => True
  | .no => False
  | .bit i => m.b i = true
  | .bad => False
theorem ansOf_ok {r : TV × St} {m : M} (h : (ansOf r).ok m) : Yes r m := by
  unfold Yes yesB
  unfold ansOf at h
  split at h
  · rename_i e; simp only [e]
  · exact h.elim
  · rename_i e; simp only [e]; exact h
  · exact h.elim
def Tree.ans (t : Tree (TV × St)) : Tree Lf := t.bind fun r => .leaf (ansOf r)
theorem vc_ans {txt : Rat → List UInt8} {t : Tree (TV × St)} {m : M} (h : t.ans.vc txt m Lf.ok) : t.vc txt m Yes := by
  unfold Tree.ans at h
  rw [Tree.vc_bind] at h
  exact Tree.vc_mono (fun r m h => ansOf_ok h) t m h
/-- A function answers true if what its tree asks holds. -/
theorem yes_of_tree {gen : FuncId → Md} {call : CallF} (hc : COk T P gen call) {f : FuncId} {avs : List AV} {vs : List Value} {w : World} {ρ : Env} {s : St} (H : SRel T w ρ s w) (hav : All2 (ARel ρ) avs vs) {l : Tree Lf} (hl : (call f avs s).ans = l) (hK : l.vc T.txt ρ.m Lf.ok) :
    Calls P f vs.toArray w fun e w' => e = .returned (.bool true) ∧ Below w.heap.size w w' := yes_of hc H hav (vc_ans (hl ▸ hK))
theorem rat_ne {n : Int} (h : n ≠ 0) : (n : Rat) ≠ 0 := fun e => h (by
  have e1 : (n : Rat).num = (0 : Rat).num := by rw [e]
  exact e1)
end
end Go.Proofs.VM
namespace Go.Proofs.VM
open Go.RowKit
noncomputable section
variable {T : FT} {w0 : World} {P : Program}

/-! ### Fractions of plain data: a numerator, and a denominator that counts as 1 unless it is above 0 -/
def sOf : List AV → St → Tree (TV × St)
  | [.agg [x, y]], s => match numOf x, numOf y with
    | some (.i64, a), some (.i64, b) => match rangeOf s a, rangeOf s b with
      | some (al, ah), some (bl, bh) => if -9223372036854775808 ≤ al ∧ ah ≤ 9223372036854775807 ∧ -9223372036854775808 ≤ bl ∧ bh ≤ 9223372036854775807 then (match bitsOf al ah, bitsOf 1 (max bh 1) with
        | some n, some k => mkQ s (.of a b) (max n k) one
        | _, _ => .fail "of") else .fail "of"
      | _, _ => .fail "of"
    | _, _ => .fail "of"
  | _, _ => .fail "of"
theorem IA.keep {m : M} {a : IA} {n : Int} (h : ∀ i, a = .v i → i < m.I.length) : a.ev (m.pushI n) = a.ev m := by
  cases a with
  | l x => rfl
  | v i =>
    have := h i rfl
    show (m.I ++ [n]).getD i 0 = m.I.getD i 0
    rw [List.getD_eq_getElem?_getD, List.getD_eq_getElem?_getD, List.getElem?_append_left this]
theorem rangeOf_lt {ρ : Env} {s : St} (H : MRel' ρ s) {a : IA} {r : Int × Int} (e : rangeOf s a = some r) : ∀ i, a = .v i → i < ρ.m.I.length := by
  intro i h
  subst h
  have := Sq.get_lt (q := s.rng) (i := i) (x := r) e
  rw [H.nI]; exact this
theorem sOf_ok {f : FuncId} (hn : ∀ (k l : Nat) (n d : Int), n.natAbs < 2 ^ k → d.natAbs < 2 ^ l → 1 ≤ k → 1 ≤ l → 0 < d → Fits (max k l) ((n : Rat) / (d : Rat)))
    (hc : ∀ w (n d : Int), -9223372036854775808 ≤ n → n ≤ 9223372036854775807 → -9223372036854775808 ≤ d → d ≤ 9223372036854775807 → T.E w → Calls P f #[.agg #[.int .i64 n, .int .i64 d]] w (fun e w' => ∃ r, e = .returned r ∧ T.FA w' r ((n : Rat) / ((pos1 d : Int) : Rat)) ∧ Below w.heap.size w w')) : SOk T P f sOf := by
  intro w0 ρ s w avs vs H hav K hK
  unfold sOf at hK
  split at hK
  · rename_i x y
    match vs, hav with
    | [u], ⟨hx, _⟩ =>
      obtain ⟨us, rfl, hu⟩ := hx
      match us, hu with
      | [u1, u2], ⟨h1, h2, _⟩ =>
        split at hK
        · rename_i a b ha hb
          have hu := numOf_rel h1 ha
          have hv := numOf_rel h2 hb
          subst hu; subst hv
          split at hK
          · rename_i al ah bl bh ra rb
            have ba := rangeOf_ok H.m' ra
            have bb := rangeOf_ok H.m' rb
            split at hK
            · rename_i hbd
              split at hK
              · rename_i n k n1 n2
                have hp : 1 ≤ pos1 (b.ev ρ.m) ∧ pos1 (b.ev ρ.m) ≤ max bh 1 := by unfold pos1; split <;> omega
                have g1 := bitsOf_ok n1 ba.1 ba.2
                have g2 := bitsOf_ok n2 hp.1 hp.2
                refine Calls.mono (hc w (a.ev ρ.m) (b.ev ρ.m) (by omega) (by omega) (by omega) (by omega) H.env) ?_
                rintro e w' ⟨r, rfl, hr, hbw⟩
                obtain ⟨ρ', s', k1, k2, k3, k4⟩ := mkQ_ok H hbw hK (q := (a.ev ρ.m : Rat) / ((pos1 (b.ev ρ.m) : Int) : Rat)) rfl hr (hn _ _ _ _ g1.1 g2.1 g1.2 g2.2 (by omega))
                exact ⟨⟨ρ', _, s', r, k1, k2, k3, k4, rfl⟩, hbw⟩
              · exact hK.elim
            · exact hK.elim
          · exact hK.elim
        · exact hK.elim
  · exact hK.elim

/-! ### Are numerators and denominators short? -/
def in64 (s : St) (a : IA) : Bool := match rangeOf s a with
  | some (lo, hi) => decide (-9223372036854775808 ≤ lo) && decide (hi ≤ 9223372036854775807)
  | none => false
def pairsOf (s : St) : List CV → Option (List (IA × IA))
  | [] => some []
  | x :: y :: l => match numOf x, numOf y, pairsOf s l with
    | some (.i64, a), some (.i64, b), some k => if in64 s a = true ∧ in64 s b = true then some ((a, b) :: k) else none
    | _, _, _ => none
  | _ => none
def W64 (p : Int × Int) : Prop := -9223372036854775808 ≤ p.1 ∧ p.1 ≤ 9223372036854775807 ∧ -9223372036854775808 ≤ p.2 ∧ p.2 ≤ 9223372036854775807
theorem in64_ok {ρ : Env} {s : St} (H : MRel' ρ s) {a : IA} (e : in64 s a = true) : -9223372036854775808 ≤ a.ev ρ.m ∧ a.ev ρ.m ≤ 9223372036854775807 := by
  unfold in64 at e
  split at e
  · rename_i lo hi h
    have := rangeOf_ok H h
    simp only [Bool.and_eq_true, decide_eq_true_eq] at e
    omega
  · cases e
def shortB (m : Nat) : List (IA × IA) → List (IA × IA)
  | [] => []
  | (a, b) :: l => (.l (-(2 ^ m)), a) :: (a, .l (2 ^ m)) :: (b, .l (2 ^ m)) :: shortB m l
def short (m : Nat) (l : List (Int × Int)) : Bool := l.all fun p => decide (p.1.natAbs < 2 ^ m) && decide (p.2 < 2 ^ m)
def flat2 : List (Int × Int) → List Value
  | [] => []
  | (a, b) :: l => .int .i64 a :: .int .i64 b :: flat2 l
def evP (m : M) (l : List (IA × IA)) : List (Int × Int) := l.map fun p => (p.1.ev m, p.2.ev m)
theorem pairsOf_rel {ρ : Env} {s : St} (H : MRel' ρ s) : ∀ {l : List CV} {vs : List Value} {k : List (IA × IA)}, All2 (CRel ρ) l vs → pairsOf s l = some k → vs = flat2 (evP ρ.m k) ∧ ∀ p ∈ evP ρ.m k, W64 p
  | [], [], k, _, h => by cases h; exact ⟨rfl, fun p hp => nomatch hp⟩
  | [x], _, k, _, h => by cases h
  | x :: y :: l, u :: v :: vs, k, ⟨h1, h2, h3⟩, h => by
    unfold pairsOf at h
    split at h
    · rename_i a b k' e1 e2 e3
      split at h
      · rename_i hin
        cases h
        obtain ⟨i1, i2⟩ := pairsOf_rel H h3 e3
        rw [numOf_rel h1 e1, numOf_rel h2 e2, i1]
        refine ⟨rfl, fun p hp => ?_⟩
        rcases List.mem_cons.1 (show p ∈ (a.ev ρ.m, b.ev ρ.m) :: evP ρ.m k' from hp) with rfl | hp
        · have a1 := in64_ok H hin.1
          have a2 := in64_ok H hin.2
          exact ⟨a1.1, a1.2, a2.1, a2.2⟩
        · exact i2 p hp
      · cases h
    · cases h
theorem shortB_ev {m : M} {n : Nat} : ∀ {l : List (IA × IA)}, ((shortB n l).all fun p => decide (p.1.ev m < p.2.ev m)) = short n (evP m l)
  | [] => rfl
  | (a, b) :: l => by
    have ih := shortB_ev (m := m) (n := n) (l := l)
    have e : ((2 : Int) ^ n) = ((2 ^ n : Nat) : Int) := by simp
    unfold shortB
    simp only [List.all_cons, ih]
    show (decide ((-(2 ^ n) : Int) < a.ev m) && (decide (a.ev m < (2 ^ n : Int)) && (decide (b.ev m < (2 ^ n : Int)) && short n (evP m l)))) = ((decide ((a.ev m).natAbs < 2 ^ n) && decide (b.ev m < 2 ^ n)) && short n (evP m l))
    rw [Bool.eq_iff_iff]
    simp only [Bool.and_eq_true, decide_eq_true_eq]
    rw [e]
    generalize 2 ^ n = B
    constructor
    · rintro ⟨h1, h2, h3, h4⟩; exact ⟨⟨by omega, h3⟩, h4⟩
    · rintro ⟨⟨h1, h3⟩, h4⟩; exact ⟨by omega, by omega, h3, h4⟩
/-! ### Ranges that are narrowed -/
def updAt {α : Type} (f : α → α) : List α → Nat → List α
  | [], _ => []
  | x :: l, 0 => f x :: l
  | x :: l, n + 1 => x :: updAt f l n
theorem updAt_get {α : Type} (f : α → α) : ∀ (l : List α) (n j : Nat) {y : α}, (updAt f l n)[j]? = some y → l[j]? = some y ∨ (j = n ∧ ∃ x, l[n]? = some x ∧ y = f x)
  | [], _, _, _, h => nomatch h
  | x :: l, 0, 0, y, h => .inr ⟨rfl, x, rfl, by simpa [updAt] using h.symm⟩
  | x :: l, 0, j + 1, y, h => .inl (by simpa [updAt] using h)
  | x :: l, n + 1, 0, y, h => .inl (by simpa [updAt] using h)
  | x :: l, n + 1, j + 1, y, h => by
    rcases updAt_get f l n j (y := y) (by simpa [updAt] using h) with h1 | ⟨h1, z, h2, h3⟩
    · exact .inl (by simpa using h1)
    · exact .inr ⟨by omega, z, by simpa using h2, h3⟩
def Sq.upd {α : Type} (q : Sq α) (i : Nat) (f : α → α) : Sq α := match Nat.blt i q.n with
  | true => ⟨q.n, updAt f q.l (q.n - 1 - i)⟩
  | false => q
theorem Sq.upd_n {α : Type} (q : Sq α) (i : Nat) (f : α → α) : (q.upd i f).n = q.n := by unfold Sq.upd; split <;> rfl
theorem Sq.upd_get {α : Type} {q : Sq α} {i j : Nat} {f : α → α} {y : α} (h : (q.upd i f).get j = some y) : q.get j = some y ∨ (j = i ∧ ∃ x, q.get i = some x ∧ y = f x) := by
  unfold Sq.upd at h
  split at h
  · rename_i hb
    have hi : i < q.n := by simpa [Nat.blt_eq] using hb
    have hj := Sq.get_lt h
    have hj : j < q.n := hj
    unfold Sq.get at h ⊢
    have e1 : Nat.blt j q.n = true := by simpa [Nat.blt_eq] using hj
    have h : (match Nat.blt j q.n with | true => (updAt f q.l (q.n - 1 - i))[q.n - 1 - j]? | false => none) = some y := h
    rw [e1] at h ⊢
    rw [hb]
    rcases updAt_get f _ _ _ h with h1 | ⟨h1, x, h2, h3⟩
    · exact .inl h1
    · exact .inr ⟨by omega, x, h2, h3⟩
  · exact .inl h
def clip (lo hi : Int) (b : Int × Int) : Int × Int := (if b.1 < lo then lo else b.1, if hi < b.2 then hi else b.2)
def St.clip (s : St) (i : Nat) (lo hi : Int) : St := St.rec (motive := fun _ => St) (fun rng nB nS fit nb heap ncl cls lps => ⟨rng.upd i (VM.clip lo hi), nB, nS, fit, nb, heap, ncl, cls, lps⟩) s
theorem St.clip_eq (s : St) (i : Nat) (lo hi : Int) : s.clip i lo hi = { s with rng := s.rng.upd i (VM.clip lo hi) } := rfl
theorem SRel.clip {ρ : Env} {s : St} {w : World} (H : SRel T w0 ρ s w) {i : Nat} {lo hi : Int} (h : ∀ n, ρ.m.I[i]? = some n → lo ≤ n ∧ n ≤ hi) : SRel T w0 ρ (s.clip i lo hi) w :=
  ⟨{ H.m with
      nI := by show _ = (s.rng.upd i _).n; rw [Sq.upd_n]; exact H.m.nI
      rng := fun j a b n e1 e2 => by
        rcases Sq.upd_get (q := s.rng) e1 with h1 | ⟨rfl, x, h1, h2⟩
        · exact H.m.rng j a b n h1 e2
        · obtain ⟨x1, x2⟩ := x
          have h3 := H.m.rng j x1 x2 n h1 e2
          have h4 := h n e2
          unfold VM.clip at h2
          simp only [Prod.mk.injEq] at h2
          obtain ⟨rfl, rfl⟩ := h2
          constructor <;> split <;> omega }, { H.h with }, H.l⟩
def clipA (s : St) (a : IA) (lo hi : Int) : St := match a with
  | .v i => s.clip i lo hi
  | .l _ => s
def clipPs (m : Nat) : List (IA × IA) → St → St
  | [], s => s
  | (a, b) :: l, s => clipPs m l (clipA (clipA s a (1 - 2 ^ m) (2 ^ m - 1)) b (-9223372036854775808) (2 ^ m - 1))
theorem SRel.clipA {ρ : Env} {s : St} {w : World} (H : SRel T w0 ρ s w) {a : IA} {lo hi : Int} (h : lo ≤ a.ev ρ.m ∧ a.ev ρ.m ≤ hi) : SRel T w0 ρ (clipA s a lo hi) w := by
  cases a with
  | l n => exact H
  | v i =>
    refine H.clip fun n hn => ?_
    have : (IA.v i).ev ρ.m = n := by
      show ρ.m.I.getD i 0 = n
      rw [List.getD_eq_getElem?_getD, hn]; rfl
    rwa [this] at h
theorem SRel.clipPs {ρ : Env} {w : World} {m : Nat} : ∀ {l : List (IA × IA)} {s : St}, SRel T w0 ρ s w → short m (evP ρ.m l) = true → (∀ p ∈ evP ρ.m l, W64 p) → SRel T w0 ρ (clipPs m l s) w
  | [], _, H, _, _ => H
  | (a, b) :: l, s, H, h, hw => by
    have h : ((decide ((a.ev ρ.m).natAbs < 2 ^ m) && decide (b.ev ρ.m < 2 ^ m)) && short m (evP ρ.m l)) = true := h
    simp only [Bool.and_eq_true, decide_eq_true_eq] at h
    have hw1 := hw (a.ev ρ.m, b.ev ρ.m) (List.mem_cons_self ..)
    have hw1 : -9223372036854775808 ≤ b.ev ρ.m := hw1.2.2.1
    have e : ((2 : Int) ^ m) = ((2 ^ m : Nat) : Int) := by simp
    obtain ⟨⟨h1, h2⟩, h3⟩ := h
    refine SRel.clipPs (l := l) ((H.clipA (a := a) ?_).clipA (a := b) ?_) h3 fun p hp => hw p (List.mem_cons_of_mem _ hp)
    · rw [e]; generalize 2 ^ m = B at h1; omega
    · exact ⟨hw1, by omega⟩
def sBrief1 (x : CV) (b off n : Nat) (s : St) : Tree (TV × St) := match x with
  | .il .i64 (.ofNat m) => match look s.heap b with
    | some blk => match pairsOf s ((blk.cells.drop off).take (n * 2)) with
      | some l => if l.length = n ∧ 0 < n ∧ n ≤ 1048576 ∧ m ≤ 64 then .letB (.lts (shortB m l)) (.ifB s.nB (.leaf (.v (.c (.bl true)), clipPs m l s.addB)) (.leaf (.v (.c (.bl false)), s.addB))) else .fail "brief: length"
      | none => .fail "brief: cells"
    | none => .fail "brief: block"
  | _ => .fail "brief: most"
def sBrief : List AV → St → Tree (TV × St)
  | [.c x, .c (.sc b off n c)], s => if n ≤ c then sBrief1 x b off n s else .fail "brief: room"
  | [.c x, .c (.sr b off n _ _)], s => sBrief1 x b off n s
  | [.c x, .c (.sg b off n _)], s => sBrief1 x b off n s
  | _, _ => .fail "brief"
theorem evP_len {m : M} {l : List (IA × IA)} : (evP m l).length = l.length := List.length_map _
theorem flat2_len : ∀ l : List (Int × Int), (flat2 l).length = l.length * 2
  | [] => rfl
  | (_, _) :: l => by simp [flat2, flat2_len l]; omega
theorem sBrief1_ok {f : FuncId} (hc : ∀ w g o c (m : Nat) (l : List (Int × Int)), 0 < l.length → l.length ≤ c → l.length ≤ 1048576 → m ≤ 64 → (∀ p ∈ l, W64 p) → g < w.heap.size → (∀ j v, (flat2 l)[j]? = some v → w.cell? ⟨g, o + j, none⟩ = some v) →
      Calls P f #[.int .i64 m, .slice (some ⟨g, o, none⟩) l.length c] w (fun e w' => e = .returned (.bool (short m l)) ∧ Below w.heap.size w w')) {ρ : Env} {s : St} {w : World} (H : SRel T w0 ρ s w) {x : CV} {u : Value} (hx : CRel ρ x u) {b off n c g' o' : Nat} (hgo : ρ.blk b = some (g', o')) (hnc : n ≤ c) {K : TV × St → M → Prop} (hK : (sBrief1 x b off n s).vc T.txt ρ.m K) :
    Calls P f #[u, .slice (some ⟨g', o' + off, none⟩) n c] w (fun e w' => Got T w0 ρ K e w' ∧ Below w.heap.size w w') := by
  unfold sBrief1 at hK
  split at hK
  · rename_i m
    have hx : u = .int .i64 (Int.ofNat m) := hx
    subst hx
    split at hK
    · rename_i blk hblk
      split at hK
      · rename_i l hl
        split at hK
        · rename_i hcond
          obtain ⟨g, o, vs, h1, h2, h3, h4⟩ := (H.h.heap b blk hblk).cells H.h.below.size
          rw [hgo] at h1; cases h1
          obtain ⟨hr, hw64⟩ := pairsOf_rel H.m' ((h2.drop off).take (n * 2)) hl
          have hlen : (evP ρ.m l).length = n := by rw [evP_len]; exact hcond.1
          have hcall := hc w g' (o' + off) c m (evP ρ.m l) (by omega) (by omega) (by omega) (by omega) hw64 h4 (fun j v hv => by
            rw [← hr] at hv
            rw [List.getElem?_take] at hv
            split at hv
            · rw [List.getElem?_drop] at hv
              rw [Nat.add_assoc]; exact h3 _ _ hv
            · cases hv)
          rw [hlen] at hcall
          refine Calls.mono hcall ?_
          rintro e w' ⟨rfl, hb⟩
          have hK := hK _ rfl
          have e0 : (BD.lts (shortB m l)).ev ρ.m = short m (evP ρ.m l) := by simp only [BD.ev, shortB_ev]
          rw [e0] at hK
          have H2 := H.pushB (short m (evP ρ.m l))
          have l2 : ρ.le (ρ.withM (ρ.m.pushB (short m (evP ρ.m l)))) := Env.le_withM (M.le_pushB _ _)
          have hbit : (ρ.m.pushB (short m (evP ρ.m l))).b s.nB = short m (evP ρ.m l) := by
            unfold M.b M.pushB
            rw [← H.m.nB]
            simp [List.getD_eq_getElem?_getD]
          cases hs : short m (evP ρ.m l) with
          | true =>
            rw [hs] at hK H2 l2 hbit
            have hK := hK.1 hbit
            exact ⟨⟨ρ.withM (ρ.m.pushB true), .v (.c (.bl true)), clipPs m l s.addB, _, hK, l2, (SRel.clipPs H2 hs hw64).world hb, rfl, rfl⟩, hb⟩
          | false =>
            rw [hs] at hK H2 l2 hbit
            have hK := hK.2 hbit
            exact ⟨⟨ρ.withM (ρ.m.pushB false), .v (.c (.bl false)), s.addB, _, hK, l2, H2.world hb, rfl, rfl⟩, hb⟩
        · exact hK.elim
      · exact hK.elim
    · exact hK.elim
  · exact hK.elim
theorem sBrief_ok {f : FuncId} (hc : ∀ w g o c (m : Nat) (l : List (Int × Int)), 0 < l.length → l.length ≤ c → l.length ≤ 1048576 → m ≤ 64 → (∀ p ∈ l, W64 p) → g < w.heap.size → (∀ j v, (flat2 l)[j]? = some v → w.cell? ⟨g, o + j, none⟩ = some v) →
      Calls P f #[.int .i64 m, .slice (some ⟨g, o, none⟩) l.length c] w (fun e w' => e = .returned (.bool (short m l)) ∧ Below w.heap.size w w')) : SOk T P f sBrief := by
  intro w0 ρ s w avs vs H hav K hK
  unfold sBrief at hK
  split at hK
  · rename_i x b off n c
    match vs, hav with
    | [u, v], ⟨hx, hy, _⟩ =>
      obtain ⟨g', o', hgo, rfl⟩ := (hy : ∃ g o, ρ.blk b = some (g, o) ∧ v = .slice (some ⟨g, o + off, none⟩) n c)
      split at hK
      · rename_i hnc; exact sBrief1_ok hc H hx hgo hnc hK
      · exact hK.elim
  · rename_i x b off n i d
    match vs, hav with
    | [u, v], ⟨hx, hy, _⟩ =>
      obtain ⟨g', o', k, hgo, _, hle, rfl⟩ := (hy : ∃ g o k, ρ.blk b = some (g, o) ∧ ρ.m.I[i]? = some k ∧ n + d ≤ k.toNat ∧ v = .slice (some ⟨g, o + off, none⟩) n (k.toNat - d))
      exact sBrief1_ok hc H hx hgo (by omega) hK
  · rename_i x b off n d
    match vs, hav with
    | [u, v], ⟨hx, hy, _⟩ =>
      obtain ⟨g', o', k, z, hgo, _, hle, rfl⟩ := (hy : ∃ g o c z, ρ.blk b = some (g, o) ∧ ρ.blk (b + 1) = some (c, z) ∧ n + d ≤ c ∧ v = .slice (some ⟨g, o + off, none⟩) n (c - d))
      exact sBrief1_ok hc H hx hgo (by omega) hK
  · exact hK.elim
/-! ### What a function gives, told by the machine: a fraction -/
def frOf (r : TV × St) : Option Nat := match r.1 with
  | .v (.agg [.fc i 0, .fc j 1, .fc k 2]) => if i = j ∧ i = k then (match r.2.fit.get i with
    | some n => if n ≤ 2432 then some i else none
    | none => none) else none
  | _ => none
theorem frac_of_tree {gen : FuncId → Md} {call : CallF} (hc : COk T P gen call) {f : FuncId} {avs : List AV} {vs : List Value} {w : World} {ρ : Env} {s : St} (H : SRel T w ρ s w) (hav : All2 (ARel ρ) avs vs) {l : Tree (Option Nat)} (hl : ((call f avs s).bind fun r => .leaf (frOf r)) = l) {q : Rat}
    (hK : l.vc T.txt ρ.m fun o m => ∃ i, o = some i ∧ m.q i = q) : Calls P f vs.toArray w fun e w' => ∃ r, e = .returned r ∧ T.FA w' r q ∧ Below w.heap.size w w' := by
  rw [← hl, Tree.vc_bind] at hK
  refine Calls.mono (hc w ρ s w f avs vs H hav _ hK) ?_
  rintro e w' ⟨⟨ρ', tv, s', v, h1, h2, h3, h4, rfl⟩, _⟩
  obtain ⟨i, e1, e2⟩ := (h1 : ∃ i, frOf (tv, s') = some i ∧ ρ'.m.q i = q)
  unfold frOf at e1
  split at e1
  · rename_i a b c he
    split at e1
    · rename_i hij
      obtain ⟨rfl, rfl⟩ := hij
      split at e1
      · rename_i n hn
        split at e1
        · rename_i hle
          cases e1
          simp only at he
          subst he
          obtain ⟨vs', rfl, h5⟩ := h4
          match vs', h5 with
          | [v0, v1, v2], ⟨⟨t, e0, h0⟩, ⟨t1, e1, h1⟩, ⟨t2, e2', h2'⟩, _⟩ =>
            rw [e0] at e1 e2'
            cases e1; cases e2'
            subst h0; subst h1; subst h2'
            obtain ⟨q', k, hq, hk, hf⟩ := h3.m.frac _ t e0
            rw [getQ hq] at e2
            subst e2
            have hn : s'.fit.get _ = some n := hn
            rw [hk] at hn; cases hn
            exact ⟨_, rfl, hf.fa hle, h3.h.below⟩
        · cases e1
      · cases e1
    · cases e1
  · cases e1
end
end Go.Proofs.VM
namespace Go.Proofs.VM
open Go.RowKit
noncomputable section
variable {T : FT} {w0 : World} {P : Program}

/-! ### Natural numbers in memory: the tops of fractions -/
def LA (T : FT) (w : World) (u : Value) (X : Nat) : Prop := T.FA w (.agg #[.bool false, u, .slice none 0 0]) (natQ X)
theorem nat_natQ (X : Nat) : (natQ X).num.natAbs = X := by unfold natQ; rfl
def withLimb (x : CV) (s : St) (k : Nat → Nat → St → Tree (TV × St)) : Tree (TV × St) := match x with
  | .fc i 1 => match s.fit.get i with
    | some n => if n ≤ 2432 then .letQ (.top i) (k s.fit.n n (s.addF n)) else .fail "limbs: large"
    | none => .fail "limbs"
  | .nsl => .letQ .zero (k s.fit.n 1 (s.addF 1))
  | _ => .fail "no limbs"
theorem mkQ_le {s : St} {d : QD} {n : Nat} {out : AV → TV} {m : M} {K : TV × St → M → Prop} (hK : (mkQ s d n out).vc T.txt m K) : n ≤ 2432 := by
  unfold mkQ at hK
  split at hK
  · assumption
  · exact hK.elim
/-- One that may be short: it is asked. -/
def mkS (s : St) (d : QD) (n : Nat) (out : AV → TV) : Tree (TV × St) :=
  if n ≤ 200 then mkQ s d n out else if n ≤ 2432 then .letQ d (.letB (.qsm s.fit.n) (.ifB s.nB (.leaf (out (fracOf s.fit.n), (s.addF 64).addB)) (.leaf (out (fracOf s.fit.n), (s.addF n).addB)))) else .fail "large"
theorem mkS_le {s : St} {d : QD} {n : Nat} {out : AV → TV} {m : M} {K : TV × St → M → Prop} (hK : (mkS s d n out).vc T.txt m K) : n ≤ 2432 := by
  unfold mkS at hK
  split at hK
  · exact mkQ_le hK
  · split at hK
    · assumption
    · exact hK.elim
theorem mkS_ok {ρ : Env} {s : St} {w w' : World} (H : SRel T w0 ρ s w) (hb : Below w.heap.size w w') {d : QD} {n : Nat} {out : AV → TV} {K : TV × St → M → Prop} (hK : (mkS s d n out).vc T.txt ρ.m K) {r : Value} {q : Rat} (hq : q = d.ev ρ.m) (hr : T.FA w' r q) (hn : Fits n q) :
    ∃ ρ' s', K (out (fracOf s.fit.n), s') ρ'.m ∧ ρ.le ρ' ∧ SRel T w0 ρ' s' w' ∧ ARel ρ' (fracOf s.fit.n) r := by
  unfold mkS at hK
  split at hK
  · exact mkQ_ok H hb hK hq hr hn
  · split at hK
    · rename_i hle
      have e' : (ρ.m.pushQ q).q s.fit.n = q := getQ (by show (ρ.m.Q ++ [q])[s.fit.n]? = _; rw [← H.m.nQ]; simp)
      obtain ⟨b, hbv⟩ : ∃ b, b = (BD.qsm s.fit.n).ev (ρ.m.pushQ q) := ⟨_, rfl⟩
      have hbit : ((ρ.m.pushQ q).pushB b).b s.nB = b := by
        unfold M.b M.pushB M.pushQ
        rw [← H.m.nB]
        simp [List.getD_eq_getElem?_getD]
      have hK := hK q hq b hbv
      have go : ∀ k, k ≤ 2432 → Fits k q → K (out (fracOf s.fit.n), (s.addF k).addB) ((ρ.m.pushQ q).pushB b) → ∃ ρ' s', K (out (fracOf s.fit.n), s') ρ'.m ∧ ρ.le ρ' ∧ SRel T w0 ρ' s' w' ∧ ARel ρ' (fracOf s.fit.n) r := by
        intro k hk hf hKk
        obtain ⟨ρ', s', k1, k2, k3, k4⟩ := mkQ_ok H hb (d := d) (n := k) (out := out) (K := fun x m => K (x.1, x.2.addB) (m.pushB b)) (by
          unfold mkQ
          rw [if_pos hk]
          intro v hv
          rw [← hq] at hv
          subst hv
          exact hKk) hq hr hf
        have l2 : ρ'.le (ρ'.withM (ρ'.m.pushB b)) := Env.le_withM (M.le_pushB _ _)
        exact ⟨ρ'.withM (ρ'.m.pushB b), s'.addB, k1, k2.trans l2, k3.pushB b, ARel.mono l2 k4⟩
      cases b with
      | true =>
        refine go 64 (by decide) ?_ (hK.1 hbit)
        have h := hbv.symm
        simp only [BD.ev, e', Bool.and_eq_true, decide_eq_true_eq] at h
        exact h
      | false => exact go n hle hn (hK.2 hbit)
    · exact hK.elim
theorem nat_of {m : M} {i : Nat} {X : Nat} (h : m.Q[i]? = some (natQ X)) : m.nat i = X := by
  unfold M.nat; rw [getQ h]; exact nat_natQ X
theorem withLimb_ok {ρ : Env} {s : St} {w : World} (H : SRel T w0 ρ s w) {x : CV} {v : Value} (hx : CRel ρ x v) {k : Nat → Nat → St → Tree (TV × St)} {K : TV × St → M → Prop} (hK : (withLimb x s k).vc T.txt ρ.m K) :
    ∃ ρ' s' i n X, (k i n s').vc T.txt ρ'.m K ∧ ρ.le ρ' ∧ SRel T w0 ρ' s' w ∧ ρ'.m.Q[i]? = some (natQ X) ∧ LA T w v X ∧ X < 2 ^ n ∧ 1 ≤ n ∧ n ≤ 2432 := by
  unfold withLimb at hK
  split at hK
  · rename_i i
    split at hK
    · rename_i n hn
      split at hK
      · rename_i hle
        obtain ⟨t, e, rfl⟩ := (hx : ∃ t, ρ.F i = some t ∧ v = nth3 t 1)
        obtain ⟨q, n', h1, hn', h2⟩ := H.m.frac i t e
        rw [hn] at hn'; cases hn'
        have hq : ρ.m.nat i = q.num.natAbs := by unfold M.nat; rw [getQ h1]
        have hf := fits_lt (H.m.fit i n q hn h1) hle
        have h3 := T.top (h2.fa hle)
        have hn1 : 1 ≤ n := by
          rcases n with _ | n
          · have := hf.2; have := q.den_pos; simp at *; omega
          · omega
        obtain ⟨l1, H1⟩ := H.pushF (Below.refl _ _) (t := (.bool false, t.2.1, .slice none 0 0)) (k := n) (.of h3 hle) (fits_lt' (fits_natQ hf.1 hn1) hle)
        refine ⟨_, _, s.fit.n, n, q.num.natAbs, hK _ (by show _ = natQ (ρ.m.nat i); rw [hq]), l1, H1, ?_, h3, hf.1, hn1, hle⟩
        show (ρ.m.Q ++ [_])[s.fit.n]? = some _
        rw [← H.m.nQ]; simp
      · exact hK.elim
    · exact hK.elim
  · have hx : v = .slice none 0 0 := hx
    subst hx
    have hz : LA T w (.slice none 0 0) 0 := T.zero w
    obtain ⟨l1, H1⟩ := H.pushF (Below.refl _ _) (t := (.bool false, .slice none 0 0, .slice none 0 0)) (k := 1) (.of hz (by decide)) (fits_lt' ⟨by decide, by decide⟩ (by decide))
    refine ⟨_, _, s.fit.n, 1, 0, hK _ rfl, l1, H1, ?_, hz, by decide, by decide, by decide⟩
    show (ρ.m.Q ++ [_])[s.fit.n]? = some _
    rw [← H.m.nQ]; simp
  · exact hK.elim
def limbTV : AV → TV
  | .agg (_ :: x :: _) => .v (.c x)
  | _ => .tup []
def mkL (s : St) (d : QD) (n : Nat) : Tree (TV × St) := mkQ s d n limbTV
theorem mkL_ok {ρ : Env} {s : St} {w w' : World} (H : SRel T w0 ρ s w) (hb : Below w.heap.size w w') {d : QD} {n X : Nat} {out : AV → TV} {K : TV × St → M → Prop} (hK : (mkQ s d n out).vc T.txt ρ.m K) {u : Value} (hq : natQ X = d.ev ρ.m) (hr : LA T w' u X) (hn : X < 2 ^ n) (h1 : 1 ≤ n) :
    ∃ ρ' s', K (out (fracOf s.fit.n), s') ρ'.m ∧ ρ.le ρ' ∧ SRel T w0 ρ' s' w' ∧ CRel ρ' (.fc s.fit.n 1) u ∧ ρ'.m.Q = ρ.m.Q ++ [natQ X] := by
  unfold mkQ at hK
  split at hK
  · rename_i hle
    obtain ⟨b, a, k, c, a', k', c', e⟩ := T.cells hr
    simp at e
    obtain ⟨rfl, rfl, e2⟩ := e
    obtain ⟨h1, h2⟩ := H.pushF hb (t := (.bool false, .slice a k c, .slice none 0 0)) (.of hr hle) (fits_lt' (fits_natQ hn h1) hle)
    exact ⟨ρ.addF (natQ X) s.fit.n (.bool false, .slice a k c, .slice none 0 0), _, hK _ hq, h1, h2, ⟨(.bool false, .slice a k c, .slice none 0 0), by simp [Env.addF], rfl⟩, rfl⟩
  · exact hK.elim
/-- A function of two natural numbers. -/
def sL2 (d : Nat → Nat → QD) (n : Nat → Nat → Nat) (need : Nat → Nat → BD) : List AV → St → Tree (TV × St)
  | [.c x, .c y], s => withLimb x s fun i a s => withLimb y s fun j b s => .need (need i j) (mkL s (d i j) (n a b))
  | _, _ => .fail "two limbs"
theorem sL2_ok {f : FuncId} {d : Nat → Nat → QD} {n : Nat → Nat → Nat} {need : Nat → Nat → BD} {op : Nat → Nat → Nat} {C : Nat → Nat → Prop} (hd : ∀ m i j, (d i j).ev m = natQ (op (m.nat i) (m.nat j))) (hneed : ∀ m i j, (need i j).ev m = true → C (m.nat i) (m.nat j))
    (hn : ∀ a b x y, x < 2 ^ a → y < 2 ^ b → 1 ≤ a → 1 ≤ b → op x y < 2 ^ n a b ∧ 1 ≤ n a b)
    (hc : ∀ w u v x y a b, LA T w u x → LA T w v y → x < 2 ^ a → y < 2 ^ b → a ≤ 2432 → b ≤ 2432 → C x y → T.E w → Calls P f #[u, v] w (fun e w' => ∃ r, e = .returned r ∧ LA T w' r (op x y) ∧ Below w.heap.size w w')) : SOk T P f (sL2 d n need) := by
  intro w0 ρ s w avs vs H hav K hK
  unfold sL2 at hK
  split at hK
  · rename_i x y
    match vs, hav with
    | [u, v], ⟨hx, hy, _⟩ =>
      obtain ⟨ρ1, t1, i, a, X, hK, l1, H1, q1, f1, b1, c1, c1'⟩ := withLimb_ok H hx hK
      obtain ⟨ρ2, t2, j, b, Y, hK, l2, H2, q2, f2, b2, c2, c2'⟩ := withLimb_ok H1 (CRel.mono l1 hy) hK
      have hK : (need i j).ev ρ2.m = true ∧ (mkL t2 (d i j) (n a b)).vc T.txt ρ2.m K := hK
      have e1 : ρ2.m.nat i = X := nat_of (le_q l2 q1)
      have e2 : ρ2.m.nat j = Y := nat_of q2
      have hC := hneed _ _ _ hK.1
      rw [e1, e2] at hC
      refine Calls.mono (hc w u v X Y a b f1 f2 b1 b2 c1' c2' hC H.env) ?_
      rintro e w' ⟨r, rfl, hr, hb⟩
      obtain ⟨h5, h6⟩ := hn a b X Y b1 b2 c1 c2
      obtain ⟨ρ', s', k1, k2, k3, k4, _⟩ := mkL_ok H2 hb hK.2 (by rw [hd, e1, e2]) hr h5 h6
      exact ⟨⟨ρ', _, s', r, k1, (l1.trans l2).trans k2, k3, k4, rfl⟩, hb⟩
  · exact hK.elim
/-- Quotient and remainder. -/
def sLdiv : List AV → St → Tree (TV × St)
  | [.c x, .c y], s => withLimb x s fun i a s => withLimb y s fun j b s => .need (.pos j) (if a ≤ 2432 ∧ b ≤ 2432 then .letQ (.ndiv i j) (.letQ (.nmod i j) (.leaf (.tup [.c (.fc s.fit.n 1), .c (.fc (s.fit.n + 1) 1)], (s.addF a).addF b))) else .fail "divide")
  | _, _ => .fail "divide"
theorem sLdiv_ok {f : FuncId} (hc : ∀ w u v x y a b, LA T w u x → LA T w v y → x < 2 ^ a → y < 2 ^ b → a ≤ 2432 → b ≤ 2432 → 0 < y → T.E w → Calls P f #[u, v] w (fun e w' => ∃ r t, e = .returned (.tuple #[r, t]) ∧ LA T w' r (x / y) ∧ LA T w' t (x % y) ∧ Below w.heap.size w w')) : SOk T P f sLdiv := by
  intro w0 ρ s w avs vs H hav K hK
  unfold sLdiv at hK
  split at hK
  · rename_i x y
    match vs, hav with
    | [u, v], ⟨hx, hy, _⟩ =>
      obtain ⟨ρ1, t1, i, a, X, hK, l1, H1, q1, f1, b1, c1, c1'⟩ := withLimb_ok H hx hK
      obtain ⟨ρ2, t2, j, b, Y, hK, l2, H2, q2, f2, b2, c2, c2'⟩ := withLimb_ok H1 (CRel.mono l1 hy) hK
      obtain ⟨hp, hK⟩ := hK
      have e1 : ρ2.m.nat i = X := nat_of (le_q l2 q1)
      have e2 : ρ2.m.nat j = Y := nat_of q2
      have hp : 0 < ρ2.m.nat j := of_decide_eq_true hp
      rw [e2] at hp
      rw [if_pos ⟨c1', c2'⟩] at hK
      refine Calls.mono (hc w u v X Y a b f1 f2 b1 b2 c1' c2' hp H.env) ?_
      rintro e w' ⟨r, t, rfl, hr, ht, hb⟩
      obtain ⟨b0, a0, k0, d0, a0', k0', d0', er⟩ := T.cells hr
      obtain ⟨b9, a9, k9, d9, a9', k9', d9', et⟩ := T.cells ht
      simp at er et
      obtain ⟨rfl, rfl, er2⟩ := er
      obtain ⟨rfl, rfl, et2⟩ := et
      have hX : X / Y < 2 ^ a := Nat.lt_of_le_of_lt (Nat.div_le_self _ _) b1
      have hY : X % Y < 2 ^ b := Nat.lt_trans (Nat.mod_lt _ hp) b2
      obtain ⟨l3, H3⟩ := H2.pushF hb (t := (.bool false, .slice a0 k0 d0, .slice none 0 0)) (k := a) (.of hr c1') (fits_lt' (fits_natQ hX c1) c1')
      obtain ⟨l4, H4⟩ := H3.pushF (Below.refl _ _) (t := (.bool false, .slice a9 k9 d9, .slice none 0 0)) (k := b) (.of ht c2') (fits_lt' (fits_natQ hY c2) c2')
      have hK := hK (natQ (X / Y)) (by show _ = natQ (ρ2.m.nat i / ρ2.m.nat j); rw [e1, e2])
      have e1' : (ρ2.m.pushQ (natQ (X / Y))).nat i = X := nat_of (l3.1.2.2.2 _ _ (le_q l2 q1))
      have e2' : (ρ2.m.pushQ (natQ (X / Y))).nat j = Y := nat_of (l3.1.2.2.2 _ _ q2)
      have hK : K (.tup [.c (.fc t2.fit.n 1), .c (.fc (t2.fit.n + 1) 1)], (t2.addF a).addF b) ((ρ2.m.pushQ (natQ (X / Y))).pushQ (natQ (X % Y))) := hK (natQ (X % Y)) (by show _ = natQ (_ % _); rw [e1', e2'])
      have hn : (t2.addF a).fit.n = t2.fit.n + 1 := rfl
      refine ⟨⟨_, .tup [.c (.fc t2.fit.n 1), .c (.fc (t2.fit.n + 1) 1)], (t2.addF a).addF b, .tuple #[.slice a0 k0 d0, .slice a9 k9 d9], hK, ((l1.trans l2).trans l3).trans l4, H4, ⟨[.slice a0 k0 d0, .slice a9 k9 d9], rfl, ?_, ?_, trivial⟩, rfl⟩, hb⟩
      · refine CRel.mono l4 (x := .fc t2.fit.n 1) ⟨(.bool false, .slice a0 k0 d0, .slice none 0 0), by simp [Env.addF], rfl⟩
      · exact ⟨(.bool false, .slice a9 k9 d9, .slice none 0 0), by simp [Env.addF, hn], rfl⟩
  · exact hK.elim
/-- Divided by a word. -/
def sLword : List AV → St → Tree (TV × St)
  | [.c x, .c (.il .u64 (.ofNat (d + 1)))], s => withLimb x s fun i a s => if d + 1 < 18446744073709551616 then .letQ (.ndivC i (d + 1)) (.letI (.nrem i (d + 1)) (.leaf (.tup [.c (.fc s.fit.n 1), .c (.iv .u64 s.rng.n)], (s.addF a).addI 0 d))) else .fail "by a word"
  | _, _ => .fail "by a word"
theorem sLword_ok {f : FuncId} (hc : ∀ w u x d a, LA T w u x → x < 2 ^ a → a ≤ 2432 → 0 < d → d < 18446744073709551616 → T.E w → Calls P f #[u, .int .u64 (d : Nat)] w (fun e w' => ∃ r, e = .returned (.tuple #[r, .int .u64 (x % d : Nat)]) ∧ LA T w' r (x / d) ∧ Below w.heap.size w w')) : SOk T P f sLword := by
  intro w0 ρ s w avs vs H hav K hK
  unfold sLword at hK
  split at hK
  · rename_i x d
    match vs, hav with
    | [u, v], ⟨hx, hy, _⟩ =>
      have hy : v = .int .u64 ((d + 1 : Nat) : Int) := hy
      subst hy
      obtain ⟨ρ1, t1, i, a, X, hK, l1, H1, q1, f1, b1, c1, c1'⟩ := withLimb_ok H hx hK
      have e1 : ρ1.m.nat i = X := nat_of q1
      split at hK
      · rename_i hd
        refine Calls.mono (hc w u X (d + 1) a f1 b1 c1' (by omega) hd H.env) ?_
        rintro e w' ⟨r, rfl, hr, hb⟩
        obtain ⟨b0, a0, k0, d0, a0', k0', d0', er⟩ := T.cells hr
        simp at er
        obtain ⟨rfl, rfl, er2⟩ := er
        have hX : X / (d + 1) < 2 ^ a := Nat.lt_of_le_of_lt (Nat.div_le_self _ _) b1
        have hm := Nat.mod_lt X (show d + 1 > 0 by omega)
        obtain ⟨l3, H3⟩ := H1.pushF hb (t := (.bool false, .slice a0 k0 d0, .slice none 0 0)) (k := a) (.of hr c1') (fits_lt' (fits_natQ hX c1) c1')
        have H4 := H3.pushI (n := ((X % (d + 1) : Nat) : Int)) (lo := 0) (hi := d) (by omega) (by omega)
        have l4 : (ρ1.addF (natQ (X / (d + 1))) t1.fit.n (.bool false, .slice a0 k0 d0, .slice none 0 0)).le ((ρ1.addF (natQ (X / (d + 1))) t1.fit.n (.bool false, .slice a0 k0 d0, .slice none 0 0)).withM ((ρ1.addF (natQ (X / (d + 1))) t1.fit.n (.bool false, .slice a0 k0 d0, .slice none 0 0)).m.pushI ((X % (d + 1) : Nat) : Int))) := Env.le_withM (M.le_pushI _ _)
        have hK := hK (natQ (X / (d + 1))) (by show _ = natQ (ρ1.m.nat i / (d + 1)); rw [e1])
        have e1' : (ρ1.m.pushQ (natQ (X / (d + 1)))).nat i = X := nat_of (l3.1.2.2.2 _ _ q1)
        have hK : K (.tup [.c (.fc t1.fit.n 1), .c (.iv .u64 t1.rng.n)], (t1.addF a).addI 0 d) ((ρ1.m.pushQ (natQ (X / (d + 1)))).pushI ((X % (d + 1) : Nat) : Int)) := hK _ (by show _ = ((_ % (d + 1) : Nat) : Int); rw [e1'])
        refine ⟨⟨_, .tup [.c (.fc t1.fit.n 1), .c (.iv .u64 t1.rng.n)], (t1.addF a).addI 0 d, .tuple #[.slice a0 k0 d0, .int .u64 ((X % (d + 1) : Nat) : Int)], hK, (l1.trans l3).trans l4, H4, ⟨[.slice a0 k0 d0, .int .u64 ((X % (d + 1) : Nat) : Int)], rfl, ?_, ?_, trivial⟩, rfl⟩, hb⟩
        · exact CRel.mono l4 (x := .fc t1.fit.n 1) ⟨(.bool false, .slice a0 k0 d0, .slice none 0 0), by simp [Env.addF], rfl⟩
        · refine ⟨_, ?_, rfl⟩
          show (ρ1.m.I ++ [_])[t1.rng.n]? = some _
          rw [← H1.m.nI]; simp
      · exact hK.elim
  · exact hK.elim
/-- Shifted: by how much is known by its range. -/
def shiftBy (s : St) (a : IA) (k : Nat → Nat → Tree (TV × St)) : Tree (TV × St) := match rangeOf s a with
  | some (lo, hi) => if hi ≤ 2432 then (if 0 ≤ lo then k lo.toNat hi.toNat else .need (.le (.l 0) a) (k lo.toNat hi.toNat)) else .fail "shift: far"
  | none => .fail "shift"
def sLshift (d : Nat → IA → QD) (n : Nat → Nat → Nat → Nat) : List AV → St → Tree (TV × St)
  | [.c x, .c y], s => match numOf y with
    | some (.i64, y) => withLimb x s fun i a s => shiftBy s y fun b c => mkL s (d i y) (n a b c)
    | _ => .fail "shift: by"
  | _, _ => .fail "shift"
theorem sLshift_ok {f : FuncId} {d : Nat → IA → QD} {n : Nat → Nat → Nat → Nat} {op : Nat → Nat → Nat} (hd : ∀ m i y, (d i y).ev m = natQ (op (m.nat i) (y.ev m).toNat)) (hn : ∀ a b c x k, x < 2 ^ a → 1 ≤ a → b ≤ k → k ≤ c → op x k < 2 ^ n a b c ∧ 1 ≤ n a b c)
    (hc : ∀ w u x k a, LA T w u x → x < 2 ^ a → a ≤ 2432 → k ≤ 2432 → T.E w → Calls P f #[u, .int .i64 (k : Nat)] w (fun e w' => ∃ r, e = .returned r ∧ LA T w' r (op x k) ∧ Below w.heap.size w w')) : SOk T P f (sLshift d n) := by
  intro w0 ρ s w avs vs H hav K hK
  unfold sLshift at hK
  split at hK
  · rename_i x y
    match vs, hav with
    | [u, v], ⟨hx, hy, _⟩ =>
      split at hK
      · rename_i y0 hy0
        have hv := numOf_rel hy hy0
        subst hv
        obtain ⟨ρ1, t1, i, a, X, hK, l1, H1, q1, f1, b1, c1, c1'⟩ := withLimb_ok H hx hK
        have e1 : ρ1.m.nat i = X := nat_of q1
        have hv2 := numOf_rel (CRel.mono l1 hy) hy0
        have hyy : y0.ev ρ.m = y0.ev ρ1.m := by injection hv2
        rw [hyy] at *
        unfold shiftBy at hK
        split at hK
        · rename_i lo hi hr
          have br := rangeOf_ok H1.m' hr
          split at hK
          · rename_i hhi
            have key : 0 ≤ y0.ev ρ1.m → (mkL t1 (d i y0) (n a lo.toNat hi.toNat)).vc T.txt ρ1.m K → Calls P f [u, .int .i64 (y0.ev ρ1.m)].toArray w (fun e w' => Got T w0 ρ K e w' ∧ Below w.heap.size w w') := by
              intro h0 hK
              have hk : y0.ev ρ1.m = ((y0.ev ρ1.m).toNat : Int) := by omega
              rw [hk]
              refine Calls.mono (hc w u X (y0.ev ρ1.m).toNat a f1 b1 c1' (by omega) H.env) ?_
              rintro e w' ⟨r, rfl, hr, hb⟩
              obtain ⟨h5, h6⟩ := hn a lo.toNat hi.toNat X (y0.ev ρ1.m).toNat b1 c1 (by omega) (by omega)
              obtain ⟨ρ', s', k1, k2, k3, k4, _⟩ := mkL_ok H1 hb hK (by rw [hd, e1]) hr h5 h6
              exact ⟨⟨ρ', _, s', r, k1, l1.trans k2, k3, k4, rfl⟩, hb⟩
            split at hK
            · exact key (by omega) hK
            · obtain ⟨h0, hK⟩ := hK
              exact key (of_decide_eq_true h0) hK
          · exact hK.elim
        · exact hK.elim
      · exact hK.elim
  · exact hK.elim
theorem shrFits_ok {m : M} {p : Nat} {a : IA} (h : (BD.shrFits p a).ev m = true) : m.nat p / 2 ^ (a.ev m).toNat < 2 ^ SB := by
  simp only [BD.ev, decide_eq_true_eq] at h
  exact h
/-- Shifted to the right: where its digits aren't known to be few, they are asked to be. -/
def shrL (s : St) (i : Nat) (y : IA) (n : Nat) : Tree (TV × St) := if n ≤ SB then mkL s (.shr i y) n else .need (.shrFits i y) (mkL s (.shr i y) SB)
def sLshr : List AV → St → Tree (TV × St)
  | [.c x, .c y], s => match numOf y with
    | some (.i64, y) => withLimb x s fun i a s => shiftBy s y fun b _ => shrL s i y (if a ≤ b then 1 else a - b)
    | _ => .fail "shift: by"
  | _, _ => .fail "shift"
theorem sLshr_ok {f : FuncId} (hn : ∀ a b x k, x < 2 ^ a → 1 ≤ a → b ≤ k → x / 2 ^ k < 2 ^ (if a ≤ b then 1 else a - b) ∧ 1 ≤ (if a ≤ b then 1 else a - b))
    (hc : ∀ w u x k a, LA T w u x → x < 2 ^ a → a ≤ 2432 → k ≤ 2432 → T.E w → Calls P f #[u, .int .i64 (k : Nat)] w (fun e w' => ∃ r, e = .returned r ∧ LA T w' r (x / 2 ^ k) ∧ Below w.heap.size w w')) : SOk T P f sLshr := by
  intro w0 ρ s w avs vs H hav K hK
  unfold sLshr at hK
  split at hK
  · rename_i x y
    match vs, hav with
    | [u, v], ⟨hx, hy, _⟩ =>
      split at hK
      · rename_i y0 hy0
        have hv := numOf_rel hy hy0
        subst hv
        obtain ⟨ρ1, t1, i, a, X, hK, l1, H1, q1, f1, b1, c1, c1'⟩ := withLimb_ok H hx hK
        have e1 : ρ1.m.nat i = X := nat_of q1
        have hv2 := numOf_rel (CRel.mono l1 hy) hy0
        have hyy : y0.ev ρ.m = y0.ev ρ1.m := by injection hv2
        rw [hyy] at *
        unfold shiftBy at hK
        split at hK
        · rename_i lo hi hr
          have br := rangeOf_ok H1.m' hr
          split at hK
          · rename_i hhi
            have fin : ∀ n, X / 2 ^ (y0.ev ρ1.m).toNat < 2 ^ n → 1 ≤ n → 0 ≤ y0.ev ρ1.m → (mkL t1 (.shr i y0) n).vc T.txt ρ1.m K → Calls P f [u, .int .i64 (y0.ev ρ1.m)].toArray w (fun e w' => Got T w0 ρ K e w' ∧ Below w.heap.size w w') := by
              intro n h5 h6 h0 hK
              have hk : y0.ev ρ1.m = ((y0.ev ρ1.m).toNat : Int) := by omega
              rw [hk]
              refine Calls.mono (hc w u X (y0.ev ρ1.m).toNat a f1 b1 c1' (by omega) H.env) ?_
              rintro e w' ⟨r, rfl, hr, hb⟩
              obtain ⟨ρ', s', k1, k2, k3, k4, _⟩ := mkL_ok H1 hb hK (by show natQ _ = natQ (ρ1.m.nat i / _); rw [e1]) hr h5 h6
              exact ⟨⟨ρ', _, s', r, k1, l1.trans k2, k3, k4, rfl⟩, hb⟩
            have key : 0 ≤ y0.ev ρ1.m → (shrL t1 i y0 (if a ≤ lo.toNat then 1 else a - lo.toNat)).vc T.txt ρ1.m K → Calls P f [u, .int .i64 (y0.ev ρ1.m)].toArray w (fun e w' => Got T w0 ρ K e w' ∧ Below w.heap.size w w') := by
              intro h0 hK
              obtain ⟨h5, h6⟩ := hn a lo.toNat X (y0.ev ρ1.m).toNat b1 c1 (by omega)
              generalize (if a ≤ lo.toNat then 1 else a - lo.toNat) = n at hK h5 h6
              unfold shrL at hK
              split at hK
              · exact fin n h5 h6 h0 hK
              · obtain ⟨hs, hK⟩ := hK
                have hs := shrFits_ok hs
                rw [e1] at hs
                exact fin SB hs (by unfold SB; omega) h0 hK
            split at hK
            · exact key (by omega) hK
            · obtain ⟨h0, hK⟩ := hK
              exact key (of_decide_eq_true h0) hK
          · exact hK.elim
        · exact hK.elim
      · exact hK.elim
  · exact hK.elim
def sLcmp : List AV → St → Tree (TV × St)
  | [.c x, .c y], s => withLimb x s fun i _ s => withLimb y s fun j _ s => mkI s .i64 (.cmp i j) (-1) 1
  | _, _ => .fail "compare"
theorem sLcmp_ok {f : FuncId} (hc : ∀ w u v x y a b, LA T w u x → LA T w v y → x < 2 ^ a → y < 2 ^ b → a ≤ 2432 → b ≤ 2432 → Calls P f #[u, v] w (fun e w' => e = .returned (.int .i64 (cmpR (natQ x) (natQ y))) ∧ Below w.heap.size w w')) : SOk T P f sLcmp := by
  intro w0 ρ s w avs vs H hav K hK
  unfold sLcmp at hK
  split at hK
  · rename_i x y
    match vs, hav with
    | [u, v], ⟨hx, hy, _⟩ =>
      obtain ⟨ρ1, t1, i, a, X, hK, l1, H1, q1, f1, b1, c1, c1'⟩ := withLimb_ok H hx hK
      obtain ⟨ρ2, t2, j, b, Y, hK, l2, H2, q2, f2, b2, c2, c2'⟩ := withLimb_ok H1 (CRel.mono l1 hy) hK
      refine Calls.mono (hc w u v X Y a b f1 f2 b1 b2 c1' c2') ?_
      rintro e w' ⟨rfl, hb⟩
      have := mkI_end H2 hb (by simp only [ID.ev]; exact (cmp_bd _ _).1) (by simp only [ID.ev]; exact (cmp_bd _ _).2) hK
      simp only [ID.ev, getQ (le_q l2 q1), getQ q2] at this
      exact ⟨this.le (l1.trans l2), hb⟩
  · exact hK.elim
theorem nbB_le {n k : Nat} (h : n < 2 ^ k) : nbB n ≤ k := by
  unfold nbB
  split
  · omega
  · rename_i m
    have : Nat.log2 (m + 1) < k := (Nat.log2_lt (by omega)).2 h
    omega
def sLlen : List AV → St → Tree (TV × St)
  | [.c x], s => withLimb x s fun i a s => mkI s .i64 (.nbits i) 0 (a : Nat)
  | _, _ => .fail "length"
theorem sLlen_ok {f : FuncId} (hc : ∀ w u x a, LA T w u x → x < 2 ^ a → a ≤ 2432 → T.E w → Calls P f #[u] w (fun e w' => e = .returned (.int .i64 (nbB x : Nat)) ∧ Below w.heap.size w w')) : SOk T P f sLlen := by
  intro w0 ρ s w avs vs H hav K hK
  unfold sLlen at hK
  split at hK
  · rename_i x
    match vs, hav with
    | [u], ⟨hx, _⟩ =>
      obtain ⟨ρ1, t1, i, a, X, hK, l1, H1, q1, f1, b1, c1, c1'⟩ := withLimb_ok H hx hK
      have e1 : ρ1.m.nat i = X := nat_of q1
      have := nbB_le b1
      refine Calls.mono (hc w u X a f1 b1 c1' H.env) ?_
      rintro e w' ⟨rfl, hb⟩
      have := mkI_end H1 hb (d := .nbits i) (by simp only [ID.ev]; omega) (by simp only [ID.ev, e1]; omega) hK
      simp only [ID.ev, e1] at this
      exact ⟨this.le l1, hb⟩
  · exact hK.elim
/-- Which number it is: 'v', or the next one ... -/
def pickN (k : IntKind) (n : Nat) : Nat → Int → St → Tree (TV × St)
  | 0, _, _ => .fail "length: large"
  | f + 1, v, s => .letB (.eq (.v n) (.l v)) (.ifB s.nB (.leaf (.v (.c (.il k v)), s.addB)) (pickN k n f (v + 1) s.addB))
theorem pickN_end {k : IntKind} {n : Nat} {x : Int} : ∀ (f : Nat) (v : Int) {ρ : Env} {s : St} {w : World}, SRel T w0 ρ s w → ρ.m.I.getD n 0 = x → ∀ {K : TV × St → M → Prop}, (pickN k n f v s).vc T.txt ρ.m K → Got T w0 ρ K (.returned (.int k x)) w
  | 0, _, _, _, _, _, _, _, hK => hK.elim
  | f + 1, v, ρ, s, w, H, hx, K, hK => by
    have hK := hK _ rfl
    have hb : (ρ.m.pushB ((BD.eq (.v n) (.l v)).ev ρ.m)).b s.nB = (BD.eq (.v n) (.l v)).ev ρ.m := by
      show (ρ.m.B ++ [_]).getD s.nB false = _
      rw [List.getD_eq_getElem?_getD, ← H.m.nB]; simp
    have hv : (BD.eq (.v n) (.l v)).ev ρ.m = decide (x = v) := by
      show decide (ρ.m.I.getD n 0 = v) = _
      rw [hx]
    have H1 := H.pushB ((BD.eq (.v n) (.l v)).ev ρ.m)
    have hl : ρ.le (ρ.withM (ρ.m.pushB ((BD.eq (.v n) (.l v)).ev ρ.m))) := Env.le_withM (M.le_pushB _ _)
    by_cases e : x = v
    · subst e
      have := hK.1 (by rw [hb, hv]; simp)
      exact ⟨ρ.withM (ρ.m.pushB ((BD.eq (.v n) (.l x)).ev ρ.m)), .v (.c (.il k x)), s.addB, .int k x, this, hl, H1, rfl, rfl⟩
    · have := hK.2 (by rw [hb, hv]; simp [e])
      exact (pickN_end f (v + 1) H1 hx this).le hl
/-- The number of bits, looked up: for runs over constants. -/
def sLlenC : List AV → St → Tree (TV × St)
  | [.c x], s => withLimb x s fun i a s => .letI (.nbits i) (pickN .i64 s.rng.n (a + 1) 0 (s.addI 0 (a : Nat)))
  | _, _ => .fail "length"
theorem sLlenC_ok {f : FuncId} (hc : ∀ w u x a, LA T w u x → x < 2 ^ a → a ≤ 2432 → T.E w → Calls P f #[u] w (fun e w' => e = .returned (.int .i64 (nbB x : Nat)) ∧ Below w.heap.size w w')) : SOk T P f sLlenC := by
  intro w0 ρ s w avs vs H hav K hK
  unfold sLlenC at hK
  split at hK
  · rename_i x
    match vs, hav with
    | [u], ⟨hx, _⟩ =>
      obtain ⟨ρ1, t1, i, a, X, hK, l1, H1, q1, f1, b1, c1, c1'⟩ := withLimb_ok H hx hK
      have e1 : ρ1.m.nat i = X := nat_of q1
      have hn := nbB_le b1
      refine Calls.mono (hc w u X a f1 b1 c1' H.env) ?_
      rintro e w' ⟨rfl, hb⟩
      have hK := hK _ rfl
      have hv : (ID.nbits i).ev ρ1.m = (nbB X : Nat) := by simp only [ID.ev, e1]
      have H2 := (H1.pushI (n := (ID.nbits i).ev ρ1.m) (lo := 0) (hi := (a : Nat)) (by omega) (by omega)).world (by exact hb)
      have hx : (ρ1.withM (ρ1.m.pushI ((ID.nbits i).ev ρ1.m))).m.I.getD t1.rng.n 0 = (nbB X : Nat) := by
        show (ρ1.m.I ++ [_]).getD t1.rng.n 0 = _
        rw [List.getD_eq_getElem?_getD, ← H1.m.nI, hv]; simp
      exact ⟨((pickN_end (a + 1) 0 H2 hx hK).le (Env.le_withM (M.le_pushI _ _))).le l1, hb⟩
  · exact hK.elim
def sWord : List AV → St → Tree (TV × St)
  | [.c (.il .u64 (.ofNat n))], s => if n < 18446744073709551616 then mkL s (.int (.l n)) 64 else .fail "word"
  | _, _ => .fail "word"
theorem sWord_ok {f : FuncId} (hc : ∀ w n, n < 18446744073709551616 → Calls P f #[.int .u64 (n : Nat)] w (fun e w' => ∃ r, e = .returned r ∧ LA T w' r n ∧ Below w.heap.size w w')) : SOk T P f sWord := by
  intro w0 ρ s w avs vs H hav K hK
  unfold sWord at hK
  split at hK
  · rename_i n
    match vs, hav with
    | [u], ⟨hx, _⟩ =>
      have hx : u = .int .u64 ((n : Nat) : Int) := hx
      subst hx
      split at hK
      · rename_i hlt
        refine Calls.mono (hc w n hlt) ?_
        rintro e w' ⟨r, rfl, hr, hb⟩
        obtain ⟨ρ', s', k1, k2, k3, k4, _⟩ := mkL_ok H hb hK rfl hr (show n < 2 ^ 64 from hlt) (by decide)
        exact ⟨⟨ρ', _, s', r, k1, k2, k3, k4, rfl⟩, hb⟩
      · exact hK.elim
  · exact hK.elim
def sPower : List AV → St → Tree (TV × St)
  | [.c (.il .i64 (.ofNat k))], s => if k < 2432 then mkL s (.int (.l (2 ^ k : Nat))) (k + 1) else .fail "power"
  | _, _ => .fail "power"
theorem sPower_ok {f : FuncId} (hc : ∀ w k, k < 2432 → T.E w → Calls P f #[.int .i64 (k : Nat)] w (fun e w' => ∃ r, e = .returned r ∧ LA T w' r (2 ^ k) ∧ Below w.heap.size w w')) : SOk T P f sPower := by
  intro w0 ρ s w avs vs H hav K hK
  unfold sPower at hK
  split at hK
  · rename_i k
    match vs, hav with
    | [u], ⟨hx, _⟩ =>
      have hx : u = .int .i64 ((k : Nat) : Int) := hx
      subst hx
      split at hK
      · rename_i hlt
        refine Calls.mono (hc w k hlt H.env) ?_
        rintro e w' ⟨r, rfl, hr, hb⟩
        obtain ⟨ρ', s', k1, k2, k3, k4, _⟩ := mkL_ok H hb hK rfl hr (Nat.pow_lt_pow_right (by decide) (Nat.lt_succ_self k)) (by omega)
        exact ⟨⟨ρ', _, s', r, k1, k2, k3, k4, rfl⟩, hb⟩
      · exact hK.elim
  · exact hK.elim
def sUnder : List AV → St → Tree (TV × St)
  | [x], s => withFrac x s fun i a s => mkL s (.den i) a
  | _, _ => .fail "under"
theorem sUnder_ok {f : FuncId} (hc : ∀ w u x, T.FA w u x → Calls P f #[u] w (fun e w' => ∃ r, e = .returned r ∧ LA T w' r x.den ∧ Below w.heap.size w w')) : SOk T P f sUnder := by
  intro w0 ρ s w avs vs H hav K hK
  unfold sUnder at hK
  split at hK
  · rename_i x
    match vs, hav with
    | [u], ⟨hx, _⟩ =>
      obtain ⟨ρ1, t1, i, a, qx, hK, l1, H1, q1, f1, b1, c1⟩ := withFrac_ok H hx hK
      refine Calls.mono (hc w u qx f1) ?_
      rintro e w' ⟨r, rfl, hr, hb⟩
      have ha : 1 ≤ a := by
        rcases a with _ | a
        · have := b1.2; have := qx.den_pos; simp at *; omega
        · omega
      obtain ⟨ρ', s', k1, k2, k3, k4, _⟩ := mkL_ok H1 hb hK (by show natQ qx.den = natQ (ρ1.m.q i).den; rw [getQ q1]) hr b1.2 ha
      exact ⟨⟨ρ', _, s', r, k1, l1.trans k2, k3, k4, rfl⟩, hb⟩
  · exact hK.elim
/-- A number of binary places, with a sign. -/
def baOf : CV → Option BA
  | .bl b => some (.l b)
  | .bv i => some (.v i)
  | _ => none
theorem baOf_rel {ρ : Env} {x : CV} {v : Value} (h : CRel ρ x v) {a : BA} (e : baOf x = some a) : v = .bool (a.ev ρ.m) := by
  cases x <;> simp only [baOf, Option.some.injEq, reduceCtorEq] at e
  · subst e; exact h
  · subst e
    obtain ⟨b, hb, rfl⟩ := h
    show Value.bool b = Value.bool (ρ.m.b _)
    rw [getB hb]
theorem BA.keeps {m : M} {a : BA} {q : Rat} : a.ev (m.pushQ q) = a.ev m := by cases a <;> rfl
def binQ (s : Bool) (X k : Nat) : Rat := ((if s = true then -(X : Int) else (X : Int) : Int) : Rat) / (((2 ^ k : Nat) : Int) : Rat)
def sBinK (b x : CV) (k : Nat) (s : St) : Tree (TV × St) := match baOf b with
  | some b => withLimb x s fun i a s => mkS s (.bin b i k) (if a < k + 1 then k + 1 else a) one
  | none => .fail "binary: sign"
def sBin : List AV → St → Tree (TV × St)
  | [.c b, .c x, .c (.il .i64 (.ofNat k))], s => sBinK b x k s
  | _, _ => .fail "binary"
def sBuild : List AV → St → Tree (TV × St)
  | [.c b, .c x, .c .nsl], s => sBinK b x 0 s
  | _, _ => .fail "build"
theorem sBinK_ok {f : FuncId} (hn : ∀ (s : Bool) (X a k : Nat), X < 2 ^ a → Fits (if a < k + 1 then k + 1 else a) (binQ s X k)) {vb vx : Value} {more : Value} {k : Nat} {b x : CV} {ρ : Env} {s : St} {w : World} (H : SRel T w0 ρ s w) (hbr : CRel ρ b vb) (hxr : CRel ρ x vx)
    (hc : ∀ (s : Bool) u X a, LA T w u X → X < 2 ^ a → a ≤ 2432 → k < 2432 → Calls P f #[.bool s, u, more] w (fun e w' => ∃ r, e = .returned r ∧ T.FA w' r (binQ s X k) ∧ Below w.heap.size w w'))
    {K : TV × St → M → Prop} (hK : (sBinK b x k s).vc T.txt ρ.m K) : Calls P f #[vb, vx, more] w (fun e w' => Got T w0 ρ K e w' ∧ Below w.heap.size w w') := by
  unfold sBinK at hK
  split at hK
  · rename_i a ha
    obtain ⟨ρ1, t1, i, n, X, hK, l1, H1, q1, f1, b1, c1, c1'⟩ := withLimb_ok H hxr hK
    have e1 : ρ1.m.nat i = X := nat_of q1
    have hv := baOf_rel hbr ha
    have hv1 := baOf_rel (CRel.mono l1 hbr) ha
    have hev : a.ev ρ.m = a.ev ρ1.m := by rw [hv] at hv1; injection hv1
    subst hv
    have hk : k < 2432 := by
      have := mkS_le hK
      split at this <;> omega
    refine Calls.mono (hc (a.ev ρ.m) vx X n f1 b1 c1' hk) ?_
    rintro e w' ⟨r, rfl, hr, hb⟩
    obtain ⟨ρ', s', k1, k2, k3, k4⟩ := mkS_ok H1 hb hK (by show binQ (a.ev ρ.m) X k = binQ (a.ev ρ1.m) (ρ1.m.nat i) k; rw [hev, e1]) hr (hn _ _ _ _ b1)
    exact ⟨⟨ρ', _, s', r, k1, l1.trans k2, k3, k4, rfl⟩, hb⟩
  · exact hK.elim
theorem sBin_ok {f : FuncId} (hn : ∀ (s : Bool) (X a k : Nat), X < 2 ^ a → Fits (if a < k + 1 then k + 1 else a) (binQ s X k))
    (hc : ∀ w (s : Bool) u X a (k : Nat), LA T w u X → X < 2 ^ a → a ≤ 2432 → k < 2432 → T.E w → Calls P f #[.bool s, u, .int .i64 (k : Nat)] w (fun e w' => ∃ r, e = .returned r ∧ T.FA w' r (binQ s X k) ∧ Below w.heap.size w w')) : SOk T P f sBin := by
  intro w0 ρ s w avs vs H hav K hK
  unfold sBin at hK
  split at hK
  · rename_i b x k
    match vs, hav with
    | [vb, vx, vk], ⟨hb, hx, hk, _⟩ =>
      have hk : vk = .int .i64 ((k : Nat) : Int) := hk
      subst hk
      exact sBinK_ok hn H hb hx (fun s u X a h1 h2 h3 h4 => hc w s u X a k h1 h2 h3 h4 H.env) hK
  · exact hK.elim
theorem sBuild_ok {f : FuncId} (hn : ∀ (s : Bool) (X a k : Nat), X < 2 ^ a → Fits (if a < k + 1 then k + 1 else a) (binQ s X k))
    (hc : ∀ w (s : Bool) u X a, LA T w u X → X < 2 ^ a → a ≤ 2432 → Calls P f #[.bool s, u, .slice none 0 0] w (fun e w' => ∃ r, e = .returned r ∧ T.FA w' r (binQ s X 0) ∧ Below w.heap.size w w')) : SOk T P f sBuild := by
  intro w0 ρ s w avs vs H hav K hK
  unfold sBuild at hK
  split at hK
  · rename_i b x
    match vs, hav with
    | [vb, vx, vk], ⟨hb, hx, hk, _⟩ =>
      have hk : vk = .slice none 0 0 := hk
      subst hk
      exact sBinK_ok hn H hb hx (fun s u X a h1 h2 h3 _ => hc w s u X a h1 h2 h3) hK
  · exact hK.elim
end
end Go.Proofs.VM
namespace Go.Proofs.VM
open Go.RowKit
noncomputable section
variable {T : FT} {w0 : World} {P : Program}

/-! ### Fractions of the second kind -/
/-- The greatest size of one of them. -/
def RM : Nat := 100000
def withRef (x : AV) (s : St) (k : Nat → Nat → St → Tree (TV × St)) : Tree (TV × St) :=
  match x with
  | .agg [.fc i 0, .fc j 1, .fc l 2] => if i = j ∧ i = l then (match s.fit.get i with
    | some n => if RK ≤ n ∧ n - RK ≤ RM then k i (n - RK) s else .fail "kind"
    | none => .fail "fit") else .fail "mixed"
  | _ => .fail "no fraction of the second kind"
def mkR (s : St) (d : QD) (n : Nat) (out : AV → TV) : Tree (TV × St) :=
  if n ≤ 40000 then .letQ d (.leaf (out (fracOf s.fit.n), s.addF (RK + n))) else
    if n ≤ RM then .letQ d (.need (.qfit s.fit.n) (.leaf (out (fracOf s.fit.n), s.addF (RK + QB)))) else .fail "large"
theorem mkR_le {s : St} {d : QD} {n : Nat} {out : AV → TV} {txt : Rat → List UInt8} {m : M} {K : TV × St → M → Prop} (hK : (mkR s d n out).vc txt m K) : n ≤ RM := by
  unfold mkR at hK
  split at hK
  · unfold RM; omega
  · split at hK
    · assumption
    · exact hK.elim
theorem withRef_ok {ρ : Env} {s : St} {w : World} (H : SRel T w0 ρ s w) {x : AV} {v : Value} (hx : ARel ρ x v) {k : Nat → Nat → St → Tree (TV × St)} {K : TV × St → M → Prop} (hK : (withRef x s k).vc T.txt ρ.m K) :
    ∃ i n q, (k i n s).vc T.txt ρ.m K ∧ ρ.m.Q[i]? = some q ∧ T.FR w v q ∧ Fits n q ∧ n ≤ RM := by
  unfold withRef at hK
  split at hK
  · rename_i i j l
    split at hK
    · rename_i h
      obtain ⟨rfl, rfl⟩ := h
      split at hK
      · rename_i n hn
        split at hK
        · rename_i hle
          obtain ⟨m, rfl⟩ : ∃ m, n = RK + m := ⟨n - RK, by omega⟩
          rw [Nat.add_sub_cancel_left] at hK hle
          obtain ⟨vs, rfl, h⟩ := hx
          match vs, h with
          | [v0, v1, v2], ⟨⟨t, e0, h0⟩, ⟨t1, e1, h1⟩, ⟨t2, e2, h2⟩, _⟩ =>
            rw [e0] at e1 e2
            cases e1; cases e2
            subst h0; subst h1; subst h2
            obtain ⟨q, n', hq, hn', hf⟩ := H.m.frac i t e0
            rw [hn] at hn'; cases hn'
            exact ⟨i, m, q, hK, hq, hf.fr, fits_ge (H.m.fit i _ q hn hq), hle.2⟩
        · exact hK.elim
      · exact hK.elim
    · exact hK.elim
  · exact hK.elim
theorem mkR_ok {ρ : Env} {s : St} {w w' : World} (H : SRel T w0 ρ s w) (hb : Below w.heap.size w w') {d : QD} {n : Nat} {out : AV → TV} {K : TV × St → M → Prop} (hK : (mkR s d n out).vc T.txt ρ.m K) {r : Value} {q : Rat} (hq : q = d.ev ρ.m) (hr : T.FR w' r q) (hn : Fits n q) :
    ∃ ρ' s', K (out (fracOf s.fit.n), s') ρ'.m ∧ ρ.le ρ' ∧ SRel T w0 ρ' s' w' ∧ ARel ρ' (fracOf s.fit.n) r := by
  unfold mkR at hK
  obtain ⟨b, a, k, c, a', k', c', rfl⟩ := T.cellsR hr
  split at hK
  · obtain ⟨h1, h2⟩ := H.pushF hb (t := (.bool b, .slice a k c, .slice a' k' c')) (.ofR hr) (fits_ge' hn)
    have HK := hK q hq
    refine ⟨ρ.addF q s.fit.n (.bool b, .slice a k c, .slice a' k' c'), _, HK, h1, h2, [.bool b, .slice a k c, .slice a' k' c'], rfl, ?_, ?_, ?_, trivial⟩
    · exact ⟨(.bool b, .slice a k c, .slice a' k' c'), by simp [Env.addF], rfl⟩
    · exact ⟨(.bool b, .slice a k c, .slice a' k' c'), by simp [Env.addF], rfl⟩
    · exact ⟨(.bool b, .slice a k c, .slice a' k' c'), by simp [Env.addF], rfl⟩
  split at hK
  · obtain ⟨HF, HK⟩ := hK q hq
    have hf : Fits QB q := qfit_fits HF (by
      show (ρ.m.Q ++ [q])[s.fit.n]? = _
      rw [← H.m.nQ]; simp)
    obtain ⟨h1, h2⟩ := H.pushF hb (t := (.bool b, .slice a k c, .slice a' k' c')) (.ofR hr) (fits_ge' hf)
    refine ⟨ρ.addF q s.fit.n (.bool b, .slice a k c, .slice a' k' c'), _, HK, h1, h2, [.bool b, .slice a k c, .slice a' k' c'], rfl, ?_, ?_, ?_, trivial⟩
    · exact ⟨(.bool b, .slice a k c, .slice a' k' c'), by simp [Env.addF], rfl⟩
    · exact ⟨(.bool b, .slice a k c, .slice a' k' c'), by simp [Env.addF], rfl⟩
    · exact ⟨(.bool b, .slice a k c, .slice a' k' c'), by simp [Env.addF], rfl⟩
  · exact hK.elim
def errTup (a : AV) : TV := .tup [a, .c (.il .i64 3)]
theorem errTup_rel {ρ : Env} {a : AV} {v : Value} (h : ARel ρ a v) : TRel ρ (errTup a) (.tuple #[v, .int .i64 3]) := ⟨[v, .int .i64 3], rfl, h, rfl, trivial⟩
def rInt : List AV → St → Tree (TV × St)
  | [.c x], s => match numOf x with
    | some (.i64, a) => match rangeOf s a with
      | some (lo, hi) => if -9223372036854775808 ≤ lo ∧ hi ≤ 9223372036854775807 then (match bitsOf lo hi with
        | some n => mkR s (.int a) n one
        | none => .fail "int") else .fail "int"
      | none => .fail "int"
    | _ => .fail "int"
  | _, _ => .fail "int"
def rNew : List AV → St → Tree (TV × St)
  | [.c x, .c y], s => match numOf x, numOf y with
    | some (.i64, a), some (.i64, b) => match rangeOf s a, rangeOf s b with
      | some (al, ah), some (bl, bh) => if -9223372036854775808 ≤ al ∧ ah ≤ 9223372036854775807 ∧ -9223372036854775808 ≤ bl ∧ bh ≤ 9223372036854775807 then (match bitsOf al ah, bitsOf bl bh with
        | some n, some k => if 0 < bl ∨ bh < 0 then mkR s (.frac a b) (n + k) okTup else .need (.ne b (.l 0)) (mkR s (.frac a b) (n + k) okTup)
        | _, _ => .fail "new") else .fail "new: 0"
      | _, _ => .fail "new"
    | _, _ => .fail "new"
  | _, _ => .fail "new"
def r2 (f : Nat → Nat → QD) (n : Nat → Nat → Nat) : List AV → St → Tree (TV × St)
  | [x, y], s => withRef x s fun i a s => withRef y s fun j b s => mkR s (f i j) (n a b) one
  | _, _ => .fail "two"
def r1 (f : Nat → QD) (n : Nat → Nat) : List AV → St → Tree (TV × St)
  | [x], s => withRef x s fun i a s => mkR s (f i) (n a) one
  | _, _ => .fail "one"
def rZero : List AV → St → Tree (TV × St)
  | [x], s => withRef x s fun i _ s => mkB s (.zero i)
  | _, _ => .fail "zero"
def rSame : List AV → St → Tree (TV × St)
  | [x, y], s => withRef x s fun i _ s => withRef y s fun j _ s => mkB s (.same i j)
  | _, _ => .fail "same"
def rSign : List AV → St → Tree (TV × St)
  | [x], s => withRef x s fun i _ s => mkI s .i64 (.sign i) (-1) 1
  | _, _ => .fail "sign"
def rCmp : List AV → St → Tree (TV × St)
  | [x, y], s => withRef x s fun i _ s => withRef y s fun j _ s => mkI s .i64 (.cmp i j) (-1) 1
  | _, _ => .fail "cmp"
def rDiv : List AV → St → Tree (TV × St)
  | [x, y], s => withRef x s fun i a s => withRef y s fun j b s => .letB (.zero j) (.ifB s.nB (mkR s.addB .zero 1 errTup) (mkR s.addB (.div i j) (a + b) okTup))
  | _, _ => .fail "div"
/-- A function of two fractions. -/
theorem r2_ok {f : FuncId} {d : Nat → Nat → QD} {n : Nat → Nat → Nat} {op : Rat → Rat → Rat} (hd : ∀ m i j, (d i j).ev m = op (m.q i) (m.q j)) (hn : ∀ a b x y, Fits a x → Fits b y → Fits (n a b) (op x y))
    (hc : ∀ w u v x y a b, T.FR w u x → T.FR w v y → Fits a x → Fits b y → a ≤ RM → b ≤ RM → n a b ≤ RM → T.E w → Calls P f #[u, v] w (fun e w' => ∃ r, e = .returned r ∧ T.FR w' r (op x y) ∧ Below w.heap.size w w')) : SOk T P f (r2 d n) := by
  intro w0 ρ s w avs vs H hav K hK
  match avs, vs, hav, hK with
  | [x, y], [u, v], ⟨hx, hy, _⟩, hK =>
    have hK : (withRef x s fun i a s => withRef y s fun j b s => mkR s (d i j) (n a b) one).vc T.txt ρ.m K := hK
    obtain ⟨i, a, qx, hK, q1, f1, b1, c1⟩ := withRef_ok H hx hK
    obtain ⟨j, b, qy, hK, q2, f2, b2, c2⟩ := withRef_ok H hy hK
    have hnb : n a b ≤ RM := mkR_le hK
    refine Calls.mono (hc w u v qx qy a b f1 f2 b1 b2 c1 c2 hnb H.env) ?_
    rintro e w' ⟨r, rfl, hr, hb⟩
    obtain ⟨ρ', s', k1, k2, k3, k4⟩ := mkR_ok H hb hK (by rw [hd, show ρ.m.q i = qx from getQ q1, show ρ.m.q j = qy from getQ q2]) hr (hn _ _ _ _ b1 b2)
    exact ⟨⟨ρ', _, s', r, k1, k2, k3, k4, rfl⟩, hb⟩
  | [], _, _, hK => exact hK.elim
  | [_], _, _, hK => exact hK.elim
  | _ :: _ :: _ :: _, _, _, hK => exact hK.elim
/-- A function of one fraction. -/
theorem r1_ok {f : FuncId} {d : Nat → QD} {n : Nat → Nat} {op : Rat → Rat} (hd : ∀ m i, (d i).ev m = op (m.q i)) (hn : ∀ a x, Fits a x → Fits (n a) (op x))
    (hc : ∀ w u x a, T.FR w u x → Fits a x → a ≤ RM → T.E w → Calls P f #[u] w (fun e w' => ∃ r, e = .returned r ∧ T.FR w' r (op x) ∧ Below w.heap.size w w')) : SOk T P f (r1 d n) := by
  intro w0 ρ s w avs vs H hav K hK
  match avs, vs, hav, hK with
  | [x], [u], ⟨hx, _⟩, hK =>
    have hK : (withRef x s fun i a s => mkR s (d i) (n a) one).vc T.txt ρ.m K := hK
    obtain ⟨i, a, qx, hK, q1, f1, b1, c1⟩ := withRef_ok H hx hK
    refine Calls.mono (hc w u qx a f1 b1 c1 H.env) ?_
    rintro e w' ⟨r, rfl, hr, hb⟩
    obtain ⟨ρ', s', k1, k2, k3, k4⟩ := mkR_ok H hb hK (by rw [hd, show ρ.m.q i = qx from getQ q1]) hr (hn _ _ b1)
    exact ⟨⟨ρ', _, s', r, k1, k2, k3, k4, rfl⟩, hb⟩
  | [], _, _, hK => exact hK.elim
  | _ :: _ :: _, _, _, hK => exact hK.elim
theorem rZero_ok {f : FuncId} (hc : ∀ w u x, T.FR w u x → Calls P f #[u] w (fun e w' => e = .returned (.bool (decide (x = 0))) ∧ Below w.heap.size w w')) : SOk T P f rZero := by
  intro w0 ρ s w avs vs H hav K hK
  match avs, vs, hav, hK with
  | [x], [u], ⟨hx, _⟩, hK =>
    have hK : (withRef x s fun i _ s => mkB s (.zero i)).vc T.txt ρ.m K := hK
    obtain ⟨i, a, qx, hK, q1, f1, b1, c1⟩ := withRef_ok H hx hK
    refine Calls.mono (hc w u qx f1) ?_
    rintro e w' ⟨rfl, hb⟩
    have := mkB_end H hb hK
    simp only [BD.ev, getQ q1] at this
    exact ⟨this, hb⟩
  | [], _, _, hK => exact hK.elim
  | _ :: _ :: _, _, _, hK => exact hK.elim
theorem rSame_ok {f : FuncId} (hc : ∀ w u v x y a b, T.FR w u x → T.FR w v y → Fits a x → Fits b y → a ≤ RM → b ≤ RM → Calls P f #[u, v] w (fun e w' => e = .returned (.bool (decide (x = y))) ∧ Below w.heap.size w w')) : SOk T P f rSame := by
  intro w0 ρ s w avs vs H hav K hK
  match avs, vs, hav, hK with
  | [x, y], [u, v], ⟨hx, hy, _⟩, hK =>
    have hK : (withRef x s fun i _ s => withRef y s fun j _ s => mkB s (.same i j)).vc T.txt ρ.m K := hK
    obtain ⟨i, a, qx, hK, q1, f1, b1, c1⟩ := withRef_ok H hx hK
    obtain ⟨j, b, qy, hK, q2, f2, b2, c2⟩ := withRef_ok H hy hK
    refine Calls.mono (hc w u v qx qy a b f1 f2 b1 b2 c1 c2) ?_
    rintro e w' ⟨rfl, hb⟩
    have := mkB_end H hb hK
    simp only [BD.ev, getQ q1, getQ q2] at this
    exact ⟨this, hb⟩
  | [], _, _, hK => exact hK.elim
  | [_], _, _, hK => exact hK.elim
  | _ :: _ :: _ :: _, _, _, hK => exact hK.elim
theorem rSign_ok {f : FuncId} (hc : ∀ w u x, T.FR w u x → Calls P f #[u] w (fun e w' => e = .returned (.int .i64 (sgnQ x)) ∧ Below w.heap.size w w')) : SOk T P f rSign := by
  intro w0 ρ s w avs vs H hav K hK
  match avs, vs, hav, hK with
  | [x], [u], ⟨hx, _⟩, hK =>
    have hK : (withRef x s fun i _ s => mkI s .i64 (.sign i) (-1) 1).vc T.txt ρ.m K := hK
    obtain ⟨i, a, qx, hK, q1, f1, b1, c1⟩ := withRef_ok H hx hK
    refine Calls.mono (hc w u qx f1) ?_
    rintro e w' ⟨rfl, hb⟩
    have := mkI_end H hb (by simp only [ID.ev]; exact (sgn_bd _).1) (by simp only [ID.ev]; exact (sgn_bd _).2) hK
    simp only [ID.ev, getQ q1] at this
    exact ⟨this, hb⟩
  | [], _, _, hK => exact hK.elim
  | _ :: _ :: _, _, _, hK => exact hK.elim
theorem rCmp_ok {f : FuncId} (hc : ∀ w u v x y a b, T.FR w u x → T.FR w v y → Fits a x → Fits b y → a ≤ RM → b ≤ RM → Calls P f #[u, v] w (fun e w' => e = .returned (.int .i64 (cmpR x y)) ∧ Below w.heap.size w w')) : SOk T P f rCmp := by
  intro w0 ρ s w avs vs H hav K hK
  match avs, vs, hav, hK with
  | [x, y], [u, v], ⟨hx, hy, _⟩, hK =>
    have hK : (withRef x s fun i _ s => withRef y s fun j _ s => mkI s .i64 (.cmp i j) (-1) 1).vc T.txt ρ.m K := hK
    obtain ⟨i, a, qx, hK, q1, f1, b1, c1⟩ := withRef_ok H hx hK
    obtain ⟨j, b, qy, hK, q2, f2, b2, c2⟩ := withRef_ok H hy hK
    refine Calls.mono (hc w u v qx qy a b f1 f2 b1 b2 c1 c2) ?_
    rintro e w' ⟨rfl, hb⟩
    have := mkI_end H hb (by simp only [ID.ev]; exact (cmp_bd _ _).1) (by simp only [ID.ev]; exact (cmp_bd _ _).2) hK
    simp only [ID.ev, getQ q1, getQ q2] at this
    exact ⟨this, hb⟩
  | [], _, _, hK => exact hK.elim
  | [_], _, _, hK => exact hK.elim
  | _ :: _ :: _ :: _, _, _, hK => exact hK.elim
theorem rInt_ok {f : FuncId} (hn : ∀ (k : Nat) (n : Int), n.natAbs < 2 ^ k → 1 ≤ k → Fits k (n : Rat)) (hc : ∀ w (n : Int), -9223372036854775808 ≤ n → n ≤ 9223372036854775807 → Calls P f #[.int .i64 n] w (fun e w' => ∃ r, e = .returned r ∧ T.FR w' r (n : Rat) ∧ Below w.heap.size w w')) : SOk T P f rInt := by
  intro w0 ρ s w avs vs H hav K hK
  unfold rInt at hK
  split at hK
  · rename_i x
    match vs, hav with
    | [u], ⟨hx, _⟩ =>
      split at hK
      · rename_i a ha
        have hu := numOf_rel hx ha
        subst hu
        split at hK
        · rename_i lo hi hr
          have hb := rangeOf_ok H.m' hr
          split at hK
          · rename_i hbd
            split at hK
            · rename_i n hn2
              have h2 := bitsOf_ok hn2 hb.1 hb.2
              refine Calls.mono (hc w (a.ev ρ.m) (by omega) (by omega)) ?_
              rintro e w' ⟨r, rfl, hr, hbw⟩
              obtain ⟨ρ', s', k1, k2, k3, k4⟩ := mkR_ok H hbw hK rfl hr (hn _ _ h2.1 h2.2)
              exact ⟨⟨ρ', _, s', r, k1, k2, k3, k4, rfl⟩, hbw⟩
            · exact hK.elim
          · exact hK.elim
        · exact hK.elim
      · exact hK.elim
  · exact hK.elim
theorem rNew_ok {f : FuncId} (hn : ∀ (k l : Nat) (n d : Int), n.natAbs < 2 ^ k → d.natAbs < 2 ^ l → 1 ≤ k → 1 ≤ l → Fits (k + l) ((n : Rat) / (d : Rat)))
    (hc : ∀ w (n d : Int), -9223372036854775808 ≤ n → n ≤ 9223372036854775807 → -9223372036854775808 ≤ d → d ≤ 9223372036854775807 → d ≠ 0 → T.E w → Calls P f #[.int .i64 n, .int .i64 d] w (fun e w' => ∃ r, e = .returned (.tuple #[r, .int .i64 0]) ∧ T.FR w' r ((n : Rat) / (d : Rat)) ∧ Below w.heap.size w w')) : SOk T P f rNew := by
  intro w0 ρ s w avs vs H hav K hK
  unfold rNew at hK
  split at hK
  · rename_i x y
    match vs, hav with
    | [u, v], ⟨hx, hy, _⟩ =>
      split at hK
      · rename_i a b ha hb
        have hu := numOf_rel hx ha
        have hv := numOf_rel hy hb
        subst hu; subst hv
        split at hK
        · rename_i al ah bl bh ra rb
          have ba := rangeOf_ok H.m' ra
          have bb := rangeOf_ok H.m' rb
          split at hK
          · rename_i hbd
            split at hK
            · rename_i n k n1 n2
              have h1 := bitsOf_ok n1 ba.1 ba.2
              have h2 := bitsOf_ok n2 bb.1 bb.2
              have key : b.ev ρ.m ≠ 0 → (mkR s (.frac a b) (n + k) okTup).vc T.txt ρ.m K → Calls P f #[.int .i64 (a.ev ρ.m), .int .i64 (b.ev ρ.m)] w (fun e w' => Got T w0 ρ K e w' ∧ Below w.heap.size w w') := by
                intro h0 hK
                refine Calls.mono (hc w (a.ev ρ.m) (b.ev ρ.m) (by omega) (by omega) (by omega) (by omega) h0 H.env) ?_
                rintro e w' ⟨r, rfl, hr, hbw⟩
                obtain ⟨ρ', s', k1, k2, k3, k4⟩ := mkR_ok H hbw hK rfl hr (hn _ _ _ _ h1.1 h2.1 h1.2 h2.2)
                exact ⟨⟨ρ', _, s', _, k1, k2, k3, okTup_rel k4, rfl⟩, hbw⟩
              split at hK
              · exact key (by omega) hK
              · obtain ⟨h0, hK⟩ := hK
                refine key ?_ hK
                have h0 : (!decide (b.ev ρ.m = 0)) = true := h0
                simpa using h0
            · exact hK.elim
          · exact hK.elim
        · exact hK.elim
      · exact hK.elim
  · exact hK.elim
def rOf : List AV → St → Tree (TV × St)
  | [.agg [x, y]], s => match numOf x, numOf y with
    | some (.i64, a), some (.i64, b) => match rangeOf s a, rangeOf s b with
      | some (al, ah), some (bl, bh) => if -9223372036854775808 ≤ al ∧ ah ≤ 9223372036854775807 ∧ -9223372036854775808 ≤ bl ∧ bh ≤ 9223372036854775807 then (match bitsOf al ah, bitsOf 1 (max bh 1) with
        | some n, some k => mkR s (.of a b) (max n k) one
        | _, _ => .fail "of") else .fail "of"
      | _, _ => .fail "of"
    | _, _ => .fail "of"
  | _, _ => .fail "of"
theorem rOf_ok {f : FuncId} (hn : ∀ (k l : Nat) (n d : Int), n.natAbs < 2 ^ k → d.natAbs < 2 ^ l → 1 ≤ k → 1 ≤ l → 0 < d → Fits (max k l) ((n : Rat) / (d : Rat)))
    (hc : ∀ w (n d : Int), -9223372036854775808 ≤ n → n ≤ 9223372036854775807 → -9223372036854775808 ≤ d → d ≤ 9223372036854775807 → T.E w → Calls P f #[.agg #[.int .i64 n, .int .i64 d]] w (fun e w' => ∃ r, e = .returned r ∧ T.FR w' r ((n : Rat) / ((pos1 d : Int) : Rat)) ∧ Below w.heap.size w w')) : SOk T P f rOf := by
  intro w0 ρ s w avs vs H hav K hK
  unfold rOf at hK
  split at hK
  · rename_i x y
    match vs, hav with
    | [u], ⟨hx, _⟩ =>
      obtain ⟨us, rfl, hu⟩ := hx
      match us, hu with
      | [u1, u2], ⟨h1, h2, _⟩ =>
        split at hK
        · rename_i a b ha hb
          have hu := numOf_rel h1 ha
          have hv := numOf_rel h2 hb
          subst hu; subst hv
          split at hK
          · rename_i al ah bl bh ra rb
            have ba := rangeOf_ok H.m' ra
            have bb := rangeOf_ok H.m' rb
            split at hK
            · rename_i hbd
              split at hK
              · rename_i n k n1 n2
                have hp : 1 ≤ pos1 (b.ev ρ.m) ∧ pos1 (b.ev ρ.m) ≤ max bh 1 := by unfold pos1; split <;> omega
                have g1 := bitsOf_ok n1 ba.1 ba.2
                have g2 := bitsOf_ok n2 hp.1 hp.2
                refine Calls.mono (hc w (a.ev ρ.m) (b.ev ρ.m) (by omega) (by omega) (by omega) (by omega) H.env) ?_
                rintro e w' ⟨r, rfl, hr, hbw⟩
                obtain ⟨ρ', s', k1, k2, k3, k4⟩ := mkR_ok H hbw hK (q := (a.ev ρ.m : Rat) / ((pos1 (b.ev ρ.m) : Int) : Rat)) rfl hr (hn _ _ _ _ g1.1 g2.1 g1.2 g2.2 (by omega))
                exact ⟨⟨ρ', _, s', r, k1, k2, k3, k4, rfl⟩, hbw⟩
              · exact hK.elim
            · exact hK.elim
          · exact hK.elim
        · exact hK.elim
  · exact hK.elim


theorem rDiv_ok {f : FuncId} (hn : ∀ a b x y, Fits a x → Fits b y → Fits (a + b) (x / y))
    (hc : ∀ w u v x y a b, T.FR w u x → T.FR w v y → Fits a x → Fits b y → a ≤ RM → b ≤ RM → y ≠ 0 → T.E w → Calls P f #[u, v] w (fun e w' => ∃ r, e = .returned (.tuple #[r, .int .i64 0]) ∧ T.FR w' r (x / y) ∧ Below w.heap.size w w'))
    (hz : ∀ w u v x a, T.FR w u x → T.FR w v 0 → Fits a x → a ≤ RM → T.E w → Calls P f #[u, v] w (fun e w' => ∃ r, e = .returned (.tuple #[r, .int .i64 3]) ∧ T.FR w' r 0 ∧ Below w.heap.size w w')) : SOk T P f rDiv := by
  intro w0 ρ s w avs vs H hav K hK
  match avs, vs, hav, hK with
  | [x, y], [u, v], ⟨hx, hy, _⟩, hK =>
    have hK : (withRef x s fun i a s => withRef y s fun j b s => .letB (.zero j) (.ifB s.nB (mkR s.addB .zero 1 errTup) (mkR s.addB (.div i j) (a + b) okTup))).vc T.txt ρ.m K := hK
    obtain ⟨i, a, qx, hK, q1, f1, b1, c1⟩ := withRef_ok H hx hK
    obtain ⟨j, b, qy, hK, q2, f2, b2, c2⟩ := withRef_ok H hy hK
    have hK := hK _ rfl
    have H3 := H.pushB ((BD.zero j).ev ρ.m)
    have l3 : ρ.le (ρ.withM (ρ.m.pushB ((BD.zero j).ev ρ.m))) := Env.le_withM (M.le_pushB _ _)
    have hbit : (ρ.m.pushB ((BD.zero j).ev ρ.m)).b s.nB = decide (qy = 0) := by
      unfold M.b M.pushB
      simp only [BD.ev, getQ q2]
      rw [← H.m.nB]
      simp [List.getD_eq_getElem?_getD]
    by_cases h0 : qy = 0
    · have hK := hK.1 (by rw [hbit]; simpa using h0)
      subst h0
      refine Calls.mono (hz w u v qx a f1 f2 b1 c1 H.env) ?_
      rintro e w' ⟨r, rfl, hr, hb⟩
      obtain ⟨ρ', s', k1, k2, k3, k4⟩ := mkR_ok H3 hb hK (q := 0) rfl hr ⟨by decide, by decide⟩
      exact ⟨⟨ρ', _, s', _, k1, l3.trans k2, k3, errTup_rel k4, rfl⟩, hb⟩
    · have hK := hK.2 (by rw [hbit]; simpa using h0)
      refine Calls.mono (hc w u v qx qy a b f1 f2 b1 b2 c1 c2 h0 H.env) ?_
      rintro e w' ⟨r, rfl, hr, hb⟩
      have e1 : (ρ.withM (ρ.m.pushB ((BD.zero j).ev ρ.m))).m.q i = qx := getQ (le_q l3 q1)
      have e2 : (ρ.withM (ρ.m.pushB ((BD.zero j).ev ρ.m))).m.q j = qy := getQ (le_q l3 q2)
      obtain ⟨ρ', s', k1, k2, k3, k4⟩ := mkR_ok H3 hb hK (by simp only [QD.ev]; rw [e1, e2]) hr (hn _ _ _ _ b1 b2)
      exact ⟨⟨ρ', _, s', _, k1, l3.trans k2, k3, okTup_rel k4, rfl⟩, hb⟩
  | [], _, _, hK => exact hK.elim
  | [_], _, _, hK => exact hK.elim
  | _ :: _ :: _ :: _, _, _, hK => exact hK.elim
/-- A fraction of the program and one of the second kind that are to be the same. -/
def sIs : List AV → St → Tree (TV × St)
  | [x, y], s => withFrac x s fun i _ s => withRef y s fun j _ s => .need (.same i j) (.leaf (.v (.c (.bl true)), s))
  | _, _ => .fail "is"
theorem sIs_ok {f : FuncId} (hc : ∀ w u v x a b, T.FA w u x → T.FR w v x → Fits a x → Fits b x → a ≤ 2432 → b ≤ RM → T.E w → Calls P f #[u, v] w (fun e w' => e = .returned (.bool true) ∧ Below w.heap.size w w')) : SOk T P f sIs := by
  intro w0 ρ s w avs vs H hav K hK
  match avs, vs, hav, hK with
  | [x, y], [u, v], ⟨hx, hy, _⟩, hK =>
    have hK : (withFrac x s fun i _ s => withRef y s fun j _ s => .need (.same i j) (.leaf (.v (.c (.bl true)), s))).vc T.txt ρ.m K := hK
    obtain ⟨ρ1, t1, i, a, qx, hK, l1, H1, q1, f1, b1, c1⟩ := withFrac_ok H hx hK
    obtain ⟨j, b, qy, hK, q2, f2, b2, c2⟩ := withRef_ok H1 (ARel.mono l1 hy) hK
    obtain ⟨hs, hK⟩ := hK
    simp only [BD.ev, getQ q1, getQ q2, decide_eq_true_eq] at hs
    subst hs
    refine Calls.mono (hc w u v qx a b f1 f2 b1 b2 c1 c2 H.env) ?_
    rintro e w' ⟨rfl, hb⟩
    exact ⟨⟨ρ1, .v (.c (.bl true)), t1, _, hK, l1, H1.world hb, rfl, rfl⟩, hb⟩
  | [], _, _, hK => exact hK.elim
  | [_], _, _, hK => exact hK.elim
  | _ :: _ :: _ :: _, _, _, hK => exact hK.elim
def frOfR (r : TV × St) : Option Nat := match r.1 with
  | .v (.agg [.fc i 0, .fc j 1, .fc k 2]) => if i = j ∧ i = k then (match r.2.fit.get i with
    | some n => if RK ≤ n then some i else none
    | none => none) else none
  | _ => none
theorem ref_of_tree {gen : FuncId → Md} {call : CallF} (hc : COk T P gen call) {f : FuncId} {avs : List AV} {vs : List Value} {w : World} {ρ : Env} {s : St} (H : SRel T w ρ s w) (hav : All2 (ARel ρ) avs vs) {l : Tree (Option Nat)} (hl : ((call f avs s).bind fun r => .leaf (frOfR r)) = l) {q : Rat}
    (hK : l.vc T.txt ρ.m fun o m => ∃ i, o = some i ∧ m.q i = q) : Calls P f vs.toArray w fun e w' => ∃ r, e = .returned r ∧ T.FR w' r q ∧ Below w.heap.size w w' := by
  rw [← hl, Tree.vc_bind] at hK
  refine Calls.mono (hc w ρ s w f avs vs H hav _ hK) ?_
  rintro e w' ⟨⟨ρ', tv, s', v, h1, h2, h3, h4, rfl⟩, _⟩
  obtain ⟨i, e1, e2⟩ := (h1 : ∃ i, frOfR (tv, s') = some i ∧ ρ'.m.q i = q)
  unfold frOfR at e1
  split at e1
  · rename_i a b c he
    split at e1
    · rename_i hij
      obtain ⟨rfl, rfl⟩ := hij
      split at e1
      · rename_i n hn
        split at e1
        · rename_i hle
          cases e1
          simp only at he
          subst he
          obtain ⟨vs', rfl, h5⟩ := h4
          match vs', h5 with
          | [v0, v1, v2], ⟨⟨t, e0, h0⟩, ⟨t1, e1, h1⟩, ⟨t2, e2', h2'⟩, _⟩ =>
            rw [e0] at e1 e2'
            cases e1; cases e2'
            subst h0; subst h1; subst h2'
            obtain ⟨q', k, hq, hk, hf⟩ := h3.m.frac _ t e0
            rw [getQ hq] at e2
            subst e2
            have hn : s'.fit.get _ = some n := hn
            rw [hk] at hn; cases hn
            obtain ⟨m, rfl⟩ : ∃ m, n = RK + m := ⟨n - RK, by omega⟩
            exact ⟨_, rfl, hf.fr, h3.h.below⟩
        · cases e1
      · cases e1
    · cases e1
  · cases e1
end
end Go.Proofs.VM
namespace Go.Proofs.VM
open Go.RowKit
noncomputable section
variable {T : FT} {w0 : World} {P : Program}
/-! ### Complex constants: what closed runs come to -/
/-- These cells are a known fraction. -/
def frB (q : Int) (s : St) (m : M) : List CV → Bool
  | [.fc i 0, .fc j 1, .fc l 2] => decide (i = j ∧ i = l) && (match s.fit.get i with
    | some n => decide (n ≤ 2432)
    | none => false) && decide (m.q i = (q : Rat))
  | [.bl false, .nsl, .nsl] => decide (q = 0)
  | _ => false
def waveB (re im : Int) (r : TV × St) (m : M) : Bool := match r.1 with
  | .tup [.agg [a, b, c, d, e, f], .c (.il .i64 (.ofNat 0))] => frB re r.2 m [a, b, c] && frB im r.2 m [d, e, f]
  | _ => false
theorem frB_ok {ρ : Env} {s : St} {w : World} (H : SRel T w0 ρ s w) {q : Int} {l : List CV} {vs : List Value} (hl : All2 (CRel ρ) l vs) (h : frB q s ρ.m l = true) : T.FA w (.agg vs.toArray) (q : Rat) := by
  unfold frB at h
  split at h
  · rename_i i j l
    simp only [Bool.and_eq_true, decide_eq_true_eq] at h
    obtain ⟨⟨⟨rfl, rfl⟩, h2⟩, h3⟩ := h
    split at h2
    · rename_i n hn
      have hle : n ≤ 2432 := of_decide_eq_true h2
      match vs, hl with
      | [v0, v1, v2], ⟨⟨t, e0, h0⟩, ⟨t1, e1, h1⟩, ⟨t2, e2, h2⟩, _⟩ =>
        rw [e0] at e1 e2
        cases e1; cases e2
        subst h0; subst h1; subst h2
        obtain ⟨p, n', hq, hn', hf⟩ := H.m.frac i t e0
        rw [hn] at hn'; cases hn'
        rw [getQ hq] at h3
        subst h3
        exact hf.fa hle
    · cases h2
  · match vs, hl with
    | [v0, v1, v2], ⟨h0, h1, h2, _⟩ =>
      have h0 : v0 = .bool false := h0
      have h1 : v1 = .slice none 0 0 := h1
      have h2 : v2 = .slice none 0 0 := h2
      subst h0; subst h1; subst h2
      have : q = 0 := of_decide_eq_true h
      subst this
      exact T.zero w
  · cases h
/-- A closed run that comes to a complex number. -/
theorem wave_of {gen : FuncId → Md} {call : CallF} (hc : COk T P gen call) {f : FuncId} {avs : List AV} {vs : List Value} {w : World} (hE : T.E w) (hav : All2 (ARel (env0 [])) avs vs) {re im : Int} (hK : (call f avs (stOf [])).chk T.txt (env0 []).m (waveB re im) = true) :
    Calls P f vs.toArray w fun e w' => ∃ a b c d x y, e = .returned (.tuple #[.agg #[a, b, c, d, x, y], .int .i64 0]) ∧ T.FA w' (.agg #[a, b, c]) (re : Rat) ∧ T.FA w' (.agg #[d, x, y]) (im : Rat) ∧ Below w.heap.size w w' := by
  have hs : SRel T w (env0 []) (stOf []) w := SRel.start (T := T) hE (rs := []) (l := []) trivial
  refine Calls.mono (hc w (env0 []) (stOf []) w f avs vs hs hav (fun r m => waveB re im r m = true) (Tree.chk_ok (fun _ _ h => h) _ _ hK)) ?_
  rintro e w' ⟨⟨ρ', tv, s', v, h1, h2, h3, h4, rfl⟩, _⟩
  unfold waveB at h1
  split at h1
  · rename_i a b c d x y e0
    simp only at e0
    subst e0
    simp only [Bool.and_eq_true] at h1
    obtain ⟨us, rfl, h4⟩ := h4
    match us, h4 with
    | [u0, u1], ⟨⟨ws, hu, hw⟩, h5, _⟩ =>
      subst hu
      have h5 : u1 = .int .i64 0 := h5
      subst h5
      match ws, hw with
      | [w0', w1, w2, w3, w4, w5], ⟨k0, k1, k2, k3, k4, k5, _⟩ =>
        exact ⟨w0', w1, w2, w3, w4, w5, rfl, frB_ok h3 (l := [a, b, c]) (vs := [w0', w1, w2]) ⟨k0, k1, k2, trivial⟩ h1.1, frB_ok h3 (l := [d, x, y]) (vs := [w3, w4, w5]) ⟨k3, k4, k5, trivial⟩ h1.2, h3.h.below⟩
  · cases h1
/-- The constants 1, i, -1, -i: their bits, and their parts. -/
def cxs : List (Nat × Nat × Int × Int) := [(1065353216, 0, 1, 0), (0, 1065353216, 0, 1), (3212836864, 0, -1, 0), (0, 3212836864, 0, -1)]
def findC : List (Nat × Nat × Int × Int) → Nat → Nat → Option (Int × Int)
  | [], _, _ => none
  | (a, b, x, y) :: l, r, i => if a = r ∧ b = i then some (x, y) else findC l r i
theorem findC_ok : ∀ {l : List (Nat × Nat × Int × Int)} {r i : Nat} {x y : Int}, findC l r i = some (x, y) → (r, i, x, y) ∈ l
  | (a, b, x', y') :: l, r, i, x, y, h => by
    unfold findC at h
    split at h
    · rename_i e; obtain ⟨rfl, rfl⟩ := e; cases h; exact List.mem_cons_self
    · exact List.mem_cons_of_mem _ (findC_ok h)
def fcs (i : Nat) : List CV := [.fc i 0, .fc i 1, .fc i 2]
def sCplx : List AV → St → Tree (TV × St)
  | [.c (.cx .f32 r i)], s => match findC cxs r i with
    | some (x, y) => .letQ (.int (.l x)) (.letQ (.int (.l y)) (.leaf (.tup [.agg (fcs s.fit.n ++ fcs (s.addF 2).fit.n), .c (.il .i64 0)], (s.addF 2).addF 2)))
    | none => .fail "complex"
  | _, _ => .fail "complex"
theorem cxs_fits : ∀ p ∈ cxs, Fits 2 ((p.2.2.1 : Int) : Rat) ∧ Fits 2 ((p.2.2.2 : Int) : Rat) := by
  intro p hp
  unfold cxs at hp
  simp only [List.mem_cons, List.not_mem_nil, or_false] at hp
  rcases hp with rfl | rfl | rfl | rfl <;> exact ⟨⟨by decide, by decide⟩, ⟨by decide, by decide⟩⟩
theorem sCplx_ok {gen : FuncId → Md} {call : CallF} (hc : COk T P gen call) {f : FuncId} (h : (cxs.all fun p => (call f [.c (.cx .f32 p.1 p.2.1)] (stOf [])).chk T.txt (env0 []).m (waveB p.2.2.1 p.2.2.2)) = true) : SOk T P f sCplx := by
  intro w0 ρ s w avs vs H hav K hK
  unfold sCplx at hK
  split at hK
  · rename_i r i
    match vs, hav with
    | [u], ⟨hu, _⟩ =>
      have hu : u = .complex .f32 r i := hu
      subst hu
      split at hK
      · rename_i x y hf
        have hm := findC_ok hf
        have hrun := List.all_eq_true.1 h _ hm
        obtain ⟨f1, f2⟩ := cxs_fits _ hm
        have ha : All2 (ARel (env0 [])) ([.c (.cx .f32 r i)] : List AV) ([.complex .f32 r i] : List Value) := ⟨rfl, trivial⟩
        refine Calls.mono (wave_of hc (SRel.env H) ha hrun) ?_
        rintro e w' ⟨a, b, c, d, p, q, rfl, g1, g2, hb⟩
        obtain ⟨b1, a1, k1, c1, a1', k1', c1', e1⟩ := T.cells g1
        obtain ⟨b2, a2, k2, c2, a2', k2', c2', e2⟩ := T.cells g2
        cases e1; cases e2
        obtain ⟨l1, H1⟩ := H.pushF hb (q := (x : Rat)) (t := (.bool b1, .slice a1 k1 c1, .slice a1' k1' c1')) (k := 2) (.of g1 (by decide)) (fits_lt' f1 (by decide))
        obtain ⟨l2, H2⟩ := H1.pushF (Below.refl _ _) (q := (y : Rat)) (t := (.bool b2, .slice a2 k2 c2, .slice a2' k2' c2')) (k := 2) (.of g2 (by decide)) (fits_lt' f2 (by decide))
        have hk : K (TV.tup [.agg (fcs s.fit.n ++ fcs (s.addF 2).fit.n), .c (.il .i64 0)], (s.addF 2).addF 2) ((ρ.addF (x : Rat) s.fit.n (.bool b1, .slice a1 k1 c1, .slice a1' k1' c1')).addF (y : Rat) (s.addF 2).fit.n (.bool b2, .slice a2 k2 c2, .slice a2' k2' c2')).m := hK _ rfl _ rfl
        refine ⟨⟨((ρ.addF (x : Rat) s.fit.n (.bool b1, .slice a1 k1 c1, .slice a1' k1' c1')).addF (y : Rat) (s.addF 2).fit.n (.bool b2, .slice a2 k2 c2, .slice a2' k2' c2')), TV.tup [.agg (fcs s.fit.n ++ fcs (s.addF 2).fit.n), .c (.il .i64 0)], (s.addF 2).addF 2, .tuple #[.agg #[.bool b1, .slice a1 k1 c1, .slice a1' k1' c1', .bool b2, .slice a2 k2 c2, .slice a2' k2' c2'], .int .i64 0], hk, l1.trans l2, H2, ⟨[.agg #[.bool b1, .slice a1 k1 c1, .slice a1' k1' c1', .bool b2, .slice a2 k2 c2, .slice a2' k2' c2'], .int .i64 0], rfl, ⟨[.bool b1, .slice a1 k1 c1, .slice a1' k1' c1', .bool b2, .slice a2 k2 c2, .slice a2' k2' c2'], rfl, ?_⟩, rfl, trivial⟩, rfl⟩, hb⟩
        have z1 : ∀ j, CRel ((ρ.addF (x : Rat) s.fit.n (.bool b1, .slice a1 k1 c1, .slice a1' k1' c1')).addF (y : Rat) (s.addF 2).fit.n (.bool b2, .slice a2 k2 c2, .slice a2' k2' c2')) (.fc s.fit.n j) (nth3 (.bool b1, .slice a1 k1 c1, .slice a1' k1' c1') j) := fun j =>
          CRel.mono l2 (show CRel (ρ.addF (x : Rat) s.fit.n (.bool b1, .slice a1 k1 c1, .slice a1' k1' c1')) (.fc s.fit.n j) (nth3 (.bool b1, .slice a1 k1 c1, .slice a1' k1' c1') j) from ⟨_, by simp [Env.addF], rfl⟩)
        have z2 : ∀ j, CRel ((ρ.addF (x : Rat) s.fit.n (.bool b1, .slice a1 k1 c1, .slice a1' k1' c1')).addF (y : Rat) (s.addF 2).fit.n (.bool b2, .slice a2 k2 c2, .slice a2' k2' c2')) (.fc (s.addF 2).fit.n j) (nth3 (.bool b2, .slice a2 k2 c2, .slice a2' k2' c2') j) := fun j =>
          ⟨_, by simp [Env.addF], rfl⟩
        exact ⟨z1 0, z1 1, z1 2, z2 0, z2 1, z2 2, trivial⟩
      · exact hK.elim
  · exact hK.elim
end
end Go.Proofs.VM
namespace Go.Proofs.VM
open Go.RowKit
noncomputable section
variable {T : FT} {w0 : World} {P : Program}
/-! ### Straight functions of fractions: run once over any, then known -/
inductive So where
  | add | mul | neg
def So.qd : So → Nat → Nat → QD
  | .add, i, j => .add i j
  | .mul, i, j => .mul i j
  | .neg, i, _ => .neg i
def So.val : So → Rat → Rat → Rat
  | .add, x, y => x + y
  | .mul, x, y => x * y
  | .neg, x, _ => -x
def So.size : So → Nat → Nat → Nat
  | .add, a, b => a + b + 1
  | .mul, a, b => a + b
  | .neg, a, _ => a
/-- An operation, its arguments by their places, and whether its size is asked for. -/
abbrev Stp := So × Nat × Nat × Bool
def gtree : List Stp → Nat → Tree (Option (Nat × Nat)) → Tree (Option (Nat × Nat))
  | [], _, t => t
  | (o, i, j, true) :: l, n, t => .letQ (o.qd i j) (.need (.qfit n) (gtree l (n + 1) t))
  | (o, i, j, false) :: l, n, t => .letQ (o.qd i j) (gtree l (n + 1) t)
def evs : List Stp → List Rat → List Rat
  | [], v => v
  | (o, i, j, _) :: l, v => evs l (v ++ [o.val (v.getD i 0) (v.getD j 0)])
/-- The kind's first size. -/
def bsK (κ : Bool) : Nat := if κ then RK else 0
def withK (κ : Bool) (x : AV) (s : St) (k : Nat → Nat → St → Tree (TV × St)) : Tree (TV × St) := match κ with
  | true => withRef x s fun i n s => if n ≤ QB then k i n s else .fail "large"
  | false => withFrac x s k
/-- The same operations in another state: places are letters with sizes now. -/
def stree (κ : Bool) : List Stp → List (Nat × Nat) → St → (List (Nat × Nat) → St → Tree (TV × St)) → Tree (TV × St)
  | [], e, s, k => k e s
  | (o, i, j, _) :: l, e, s, k => match Nat.ble (o.size (e.getD i (0, 0)).2 (e.getD j (0, 0)).2) QB with
    | true => .letQ (o.qd (e.getD i (0, 0)).1 (e.getD j (0, 0)).1) (stree κ l (e ++ [(s.fit.n, o.size (e.getD i (0, 0)).2 (e.getD j (0, 0)).2)]) (s.addF (bsK κ + o.size (e.getD i (0, 0)).2 (e.getD j (0, 0)).2)) k)
    | false => .letQ (o.qd (e.getD i (0, 0)).1 (e.getD j (0, 0)).1) (.need (.qfit s.fit.n) (stree κ l (e ++ [(s.fit.n, QB)]) (s.addF (bsK κ + QB)) k))
/-- What the letters stand for, and that they are short. -/
def EvRel (m : M) (e : List (Nat × Nat)) (v : List Rat) : Prop := All2 (fun (a : Nat × Nat) (q : Rat) => m.Q[a.1]? = some q ∧ Fits a.2 q ∧ a.2 ≤ QB) e v
theorem EvRel.getD {m : M} {e : List (Nat × Nat)} {v : List Rat} (h : EvRel m e v) {i : Nat} (hi : i < e.length) : m.q (e.getD i (0, 0)).1 = v.getD i 0 ∧ Fits (e.getD i (0, 0)).2 (v.getD i 0) := by
  obtain ⟨a, ha⟩ : ∃ a, e[i]? = some a := ⟨_, List.getElem?_eq_getElem hi⟩
  obtain ⟨q, hq, h1, h2, _⟩ := All2.get h ha
  rw [List.getD_eq_getElem?_getD, List.getD_eq_getElem?_getD, ha, hq]
  exact ⟨getQ h1, h2⟩
theorem EvRel.mono {m m' : M} (hm : ∀ (i : Nat) (q : Rat), m.Q[i]? = some q → m'.Q[i]? = some q) {e : List (Nat × Nat)} {v : List Rat} (h : EvRel m e v) : EvRel m' e v := All2.mono (fun _ _ ⟨a, b, c⟩ => ⟨hm _ _ a, b, c⟩) h
theorem So.qd_ev (o : So) (m : M) (i j : Nat) : (o.qd i j).ev m = o.val (m.q i) (m.q j) := by cases o <;> rfl
def pushQs (m : M) : List Rat → M
  | [] => m
  | v :: l => pushQs (m.pushQ v) l
def addFs (κ : Bool) (s : St) : List Nat → St
  | [] => s
  | n :: l => addFs κ (s.addF (bsK κ + n)) l
def esOf (a : Nat) : List Nat → List (Nat × Nat)
  | [] => []
  | n :: l => (a, n) :: esOf (a + 1) l
def placesOk : List Stp → Nat → Bool
  | [], _ => true
  | (_, i, j, _) :: l, n => (Nat.blt i n && Nat.blt j n) && placesOk l (n + 1)
theorem addFs_n (κ : Bool) : ∀ (ns : List Nat) (s : St), (addFs κ s ns).fit.n = s.fit.n + ns.length
  | [], _ => rfl
  | n :: l, s => by
    show (addFs κ (s.addF (bsK κ + n)) l).fit.n = _
    rw [addFs_n κ l]
    show s.fit.n + 1 + l.length = _
    simp; omega
theorem pushQs_old : ∀ {vs : List Rat} {m : M} {i : Nat} {q : Rat}, m.Q[i]? = some q → (pushQs m vs).Q[i]? = some q
  | [], _, _, _, h => h
  | _ :: l, m, _, _, h => pushQs_old (vs := l) (m := m.pushQ _) (getElem?_snoc _ _ _ _ h)
theorem pushQs_le : ∀ (vs : List Rat) (m : M), m.le (pushQs m vs)
  | [], m => .refl m
  | v :: l, m => (M.le_pushQ m v).trans (pushQs_le l _)
theorem All2.snocX {α β : Type} {R : α → β → Prop} {l : List α} {k : List β} (h : All2 R l k) {x : α} {y : β} (hx : R x y) : All2 R (l ++ [x]) (k ++ [y]) := All2.append (l2 := [x]) (k2 := [y]) ⟨hx, trivial⟩ h
/-- What the operations ask gives their values, all of them short. -/
theorem stree_vc {κ : Bool} (hfit : ∀ (o : So) (a b : Nat) (x y : Rat), Fits a x → Fits b y → Fits (o.size a b) (o.val x y)) {txt : Rat → List UInt8} {K : TV × St → M → Prop} {k : List (Nat × Nat) → St → Tree (TV × St)} :
    ∀ (l : List Stp) {e : List (Nat × Nat)} {v : List Rat} {s : St} {m : M}, (stree κ l e s k).vc txt m K → EvRel m e v → m.Q.length = s.fit.n → placesOk l e.length = true →
      ∃ (ns : List Nat) (vs : List Rat), evs l v = v ++ vs ∧ (k (e ++ esOf s.fit.n ns) (addFs κ s ns)).vc txt (pushQs m vs) K ∧ EvRel (pushQs m vs) (e ++ esOf s.fit.n ns) (v ++ vs) ∧ All2 (fun n q => Fits n q ∧ n ≤ QB) ns vs
  | [], e, v, s, m, h, he, _, _ => ⟨[], [], by simp [evs], by simpa [esOf, addFs, pushQs, stree] using h, by simpa [esOf, pushQs] using he, trivial⟩
  | (o, i, j, b) :: l, e, v, s, m, h, he, hm, hp => by
    unfold placesOk at hp
    simp only [Bool.and_eq_true, Nat.blt_eq] at hp
    obtain ⟨⟨hi, hj⟩, hp⟩ := hp
    obtain ⟨a1, a2⟩ := he.getD hi
    obtain ⟨b1, b2⟩ := he.getD hj
    have hlen : v.length = e.length := (All2.length he).symm
    have key : ∀ n, Fits n (o.val (v.getD i 0) (v.getD j 0)) → n ≤ QB → (stree κ l (e ++ [(s.fit.n, n)]) (s.addF (bsK κ + n)) k).vc txt (m.pushQ (o.val (v.getD i 0) (v.getD j 0))) K →
        ∃ (ns : List Nat) (vs : List Rat), evs ((o, i, j, b) :: l) v = v ++ vs ∧ (k (e ++ esOf s.fit.n ns) (addFs κ s ns)).vc txt (pushQs m vs) K ∧ EvRel (pushQs m vs) (e ++ esOf s.fit.n ns) (v ++ vs) ∧ All2 (fun n q => Fits n q ∧ n ≤ QB) ns vs := fun n hn hle hk => by
      have hx : (m.pushQ (o.val (v.getD i 0) (v.getD j 0))).Q[s.fit.n]? = some (o.val (v.getD i 0) (v.getD j 0)) := by
        show (m.Q ++ [_])[s.fit.n]? = _
        rw [← hm]; simp
      have he' : EvRel (m.pushQ (o.val (v.getD i 0) (v.getD j 0))) (e ++ [(s.fit.n, n)]) (v ++ [o.val (v.getD i 0) (v.getD j 0)]) :=
        All2.snocX (he.mono fun _ _ h => getElem?_snoc _ _ _ _ h) ⟨hx, hn, hle⟩
      obtain ⟨ns, vs, c1, c2, c3, c4⟩ := stree_vc hfit l hk he' (by
        show (m.Q ++ [_]).length = s.fit.n + 1
        simp [hm]) (by rw [List.length_append]; exact hp)
      refine ⟨n :: ns, o.val (v.getD i 0) (v.getD j 0) :: vs, ?_, ?_, ?_, ⟨hn, hle⟩, c4⟩
      · show evs l (v ++ [o.val (v.getD i 0) (v.getD j 0)]) = _
        rw [c1]; simp
      · have e1 : e ++ [(s.fit.n, n)] ++ esOf (s.addF (bsK κ + n)).fit.n ns = e ++ esOf s.fit.n (n :: ns) := by
          show e ++ [(s.fit.n, n)] ++ esOf (s.fit.n + 1) ns = e ++ ((s.fit.n, n) :: esOf (s.fit.n + 1) ns)
          simp
        rw [e1] at c2
        exact c2
      · have e1 : e ++ [(s.fit.n, n)] ++ esOf (s.addF (bsK κ + n)).fit.n ns = e ++ esOf s.fit.n (n :: ns) := by
          show e ++ [(s.fit.n, n)] ++ esOf (s.fit.n + 1) ns = e ++ ((s.fit.n, n) :: esOf (s.fit.n + 1) ns)
          simp
        rw [e1, List.append_assoc] at c3
        exact c3
    have hv : (o.qd (e.getD i (0, 0)).1 (e.getD j (0, 0)).1).ev m = o.val (v.getD i 0) (v.getD j 0) := by rw [So.qd_ev, a1, b1]
    unfold stree at h
    split at h
    · rename_i hle
      have h := h _ hv.symm
      exact key _ (hfit o _ _ _ _ a2 b2) (Nat.le_of_ble_eq_true hle) h
    · obtain ⟨h1, h2⟩ := h _ hv.symm
      refine key QB (qfit_fits h1 ?_) (Nat.le_refl _) h2
      show (m.Q ++ [_])[s.fit.n]? = _
      rw [← hm]; simp
/-- The run over any numbers asks no more. -/
theorem gtree_vc {txt : Rat → List UInt8} {K : Option (Nat × Nat) → M → Prop} {t : Tree (Option (Nat × Nat))} : ∀ (l : List Stp) {v vs : List Rat} {m : M}, m.Q = v → placesOk l v.length = true → evs l v = v ++ vs → (∀ q ∈ vs, Fits QB q) → t.vc txt (pushQs m vs) K → (gtree l v.length t).vc txt m K
  | [], v, vs, m, _, _, he, _, ht => by
    have he : v = v ++ vs := he
    have : vs = [] := by
      have := congrArg List.length he
      rw [List.length_append] at this
      exact List.length_eq_zero_iff.1 (by omega)
    subst this
    exact ht
  | (o, i, j, b) :: l, v, vs, m, hm, hp, he, hf, ht => by
    unfold placesOk at hp
    simp only [Bool.and_eq_true, Nat.blt_eq] at hp
    obtain ⟨⟨hi, hj⟩, hp⟩ := hp
    have hq : ∀ a, m.q a = v.getD a 0 := fun a => by unfold M.q; rw [hm]
    have he : evs l (v ++ [o.val (v.getD i 0) (v.getD j 0)]) = v ++ vs := he
    obtain ⟨x, hx⟩ : ∃ x, x = o.val (v.getD i 0) (v.getD j 0) := ⟨_, rfl⟩
    rw [← hx] at he
    have hpre : ∀ (l : List Stp) (u : List Rat), ∃ r, evs l u = u ++ r := by
      intro l
      induction l with
      | nil => exact fun u => ⟨[], by simp [evs]⟩
      | cons t l ih =>
        obtain ⟨o, i, j, b⟩ := t
        intro u
        obtain ⟨r, hr⟩ := ih (u ++ [o.val (u.getD i 0) (u.getD j 0)])
        exact ⟨o.val (u.getD i 0) (u.getD j 0) :: r, by show evs l _ = _; rw [hr]; simp⟩
    obtain ⟨r, hr⟩ := hpre l (v ++ [x])
    have hvs : vs = x :: r := by
      rw [hr, List.append_assoc] at he
      exact (List.append_cancel_left he).symm
    subst hvs
    have hm' : (m.pushQ x).Q = v ++ [x] := by show m.Q ++ [x] = _; rw [hm]
    have ih := gtree_vc l (v := v ++ [x]) (vs := r) (m := m.pushQ x) (t := t) (K := K) (txt := txt) hm' (by rw [List.length_append]; exact hp) hr (fun q hq => hf q (List.mem_cons_of_mem _ hq)) ht
    rw [List.length_append] at ih
    have hv : (o.qd i j).ev m = x := by rw [So.qd_ev, hq, hq, hx]
    have hfx := hf x (List.mem_cons_self ..)
    cases b with
    | true =>
      intro y hy
      rw [hy, hv]
      refine ⟨?_, ih⟩
      have e' : (m.pushQ x).q v.length = x := getQ (by rw [hm']; simp)
      simp only [BD.ev, e', Bool.and_eq_true, decide_eq_true_eq]
      exact hfx
    | false =>
      intro y hy
      rw [hy, hv]
      exact ih
/-! ### The function itself -/
def FT.FKK (T : FT) (κ : Bool) (w : World) (v : Value) (q : Rat) : Prop := match κ with
  | true => T.FR w v q
  | false => T.FA w v q
theorem FT.FKK.to {T : FT} {κ : Bool} {w : World} {v : Value} {q : Rat} (h : T.FKK κ w v q) {n : Nat} (hn : n ≤ QB) : T.FK (bsK κ + n) w v q := by
  cases κ with
  | true => exact FT.FK.ofR h
  | false => show T.FK (0 + n) w v q; rw [Nat.zero_add]; exact FT.FK.of h hn
theorem FT.FK.kk {T : FT} {κ : Bool} {w : World} {v : Value} {q : Rat} {n : Nat} (h : T.FK (bsK κ + n) w v q) (hn : n ≤ QB) : T.FKK κ w v q := by
  cases κ with
  | true => exact FT.FK.fr h
  | false =>
    have h : T.FK (0 + n) w v q := h
    rw [Nat.zero_add] at h; exact FT.FK.fa h hn
theorem fitsK {κ : Bool} {n : Nat} {q : Rat} (h : Fits n q) (hn : n ≤ QB) : Fits' (bsK κ + n) q := by
  cases κ with
  | true => exact fits_ge' h
  | false => show Fits' (0 + n) q; rw [Nat.zero_add]; exact fits_lt' h hn
theorem FT.FKK.mono {T : FT} {κ : Bool} {w w' : World} {v : Value} {q : Rat} (h : T.FKK κ w v q) (hb : Below w.heap.size w w') : T.FKK κ w' v q := by
  cases κ with
  | true => exact T.monoR h hb
  | false => exact T.mono h hb
theorem FT.FKK.cells {T : FT} {κ : Bool} {w : World} {v : Value} {q : Rat} (h : T.FKK κ w v q) : ∃ t : Value × Value × Value, v = .agg #[t.1, t.2.1, t.2.2] := by
  cases κ with
  | true => obtain ⟨b, a, n, c, a', n', c', e⟩ := T.cellsR h; exact ⟨(.bool b, .slice a n c, .slice a' n' c'), e⟩
  | false => obtain ⟨b, a, n, c, a', n', c', e⟩ := T.cells h; exact ⟨(.bool b, .slice a n c, .slice a' n' c'), e⟩
theorem withK_ok {κ : Bool} {ρ : Env} {s : St} {w : World} (H : SRel T w0 ρ s w) {x : AV} {v : Value} (hx : ARel ρ x v) {k : Nat → Nat → St → Tree (TV × St)} {K : TV × St → M → Prop} (hK : (withK κ x s k).vc T.txt ρ.m K) :
    ∃ ρ' s' i n q, (k i n s').vc T.txt ρ'.m K ∧ ρ.le ρ' ∧ SRel T w0 ρ' s' w ∧ ρ'.m.Q[i]? = some q ∧ T.FKK κ w v q ∧ Fits n q ∧ n ≤ QB := by
  cases κ with
  | true =>
    obtain ⟨i, n, q, h1, h2, h3, h4, h5⟩ := withRef_ok H hx (k := fun i n s => if n ≤ QB then k i n s else .fail "large") hK
    split at h1
    · rename_i hle
      exact ⟨ρ, s, i, n, q, h1, .refl _, H, h2, h3, h4, hle⟩
    · exact h1.elim
  | false => exact withFrac_ok H hx hK
/-- The letter of a number gets its cells. -/
theorem SRel.setF {ρ : Env} {s : St} {w : World} (H : SRel T w0 ρ s w) {i k : Nat} {q : Rat} {t : Value × Value × Value} (hi : i < s.fit.n) (h0 : ρ.F i = none) (hq : ρ.m.Q[i]? = some q) (hk : s.fit.get i = some k) (hf : T.FK k w (.agg #[t.1, t.2.1, t.2.2]) q) :
    ρ.le { ρ with F := fun j => if j = i then some t else ρ.F j } ∧ SRel T w0 { ρ with F := fun j => if j = i then some t else ρ.F j } s w := by
  have hM := H.m
  have hle : ρ.le { ρ with F := fun j => if j = i then some t else ρ.F j } := ⟨.refl _, fun _ _ h => h, fun j x e => by
    have : j ≠ i := by rintro rfl; rw [h0] at e; cases e
    simp [this, e], fun _ _ h => h⟩
  refine ⟨hle, { nI := hM.nI, nB := hM.nB, nS := hM.nS, nQ := hM.nQ, rng := hM.rng, fit := hM.fit, frac := ?_, fresh := hM.fresh, freshF := ?_, freshC := hM.freshC, cls := ?_, oneC := hM.oneC }, H.h.later hle (Below.refl _ _), H.l.later hle (.refl _)⟩
  · intro j x e
    have e : (if j = i then some t else ρ.F j) = some x := e
    split at e
    · rename_i he
      cases e
      subst he
      exact ⟨q, k, hq, hk, hf⟩
    · exact hM.frac j x e
  · intro j hj
    show (if j = i then some t else ρ.F j) = none
    rw [if_neg (by omega)]
    exact hM.freshF j hj
  · intro j f caps e
    obtain ⟨cs, h1, h2⟩ := hM.cls j f caps e
    exact ⟨cs, h1, h2.mono fun _ _ => CRel.mono hle⟩
theorem SRel.pushQs {κ : Bool} {w : World} : ∀ {ns : List Nat} {vs : List Rat} {ρ : Env} {s : St}, SRel T w0 ρ s w → All2 (fun n q => Fits n q ∧ n ≤ QB) ns vs → SRel T w0 (ρ.withM (VM.pushQs ρ.m vs)) (addFs κ s ns) w
  | [], [], _, _, H, _ => H
  | _ :: ns, _ :: vs, _, _, H, ⟨⟨h1, h2⟩, h⟩ => SRel.pushQs (ns := ns) (vs := vs) (H.pushQ0 (fitsK (κ := κ) h1 h2)) h
theorem addFs_get (κ : Bool) : ∀ {ns : List Nat} {s : St} {i n : Nat}, ns[i]? = some n → (addFs κ s ns).fit.get (s.fit.n + i) = some (bsK κ + n)
  | n' :: l, s, i, n, h => by
    have hold : ∀ {l : List Nat} {s : St} {j k : Nat}, s.fit.get j = some k → (addFs κ s l).fit.get j = some k := by
      intro l
      induction l with
      | nil => exact fun h => h
      | cons a l ih => exact fun h => ih (Sq.get_push_old h)
    match i, h with
    | 0, h =>
      cases h
      exact hold (l := l) (s := s.addF (bsK κ + n')) (j := s.fit.n) (k := bsK κ + n') (Sq.get_push_last s.fit (bsK κ + n'))
    | i + 1, h =>
      have := addFs_get κ (ns := l) (s := s.addF (bsK κ + n')) (i := i) (n := n) (by simpa using h)
      have e : (s.addF (bsK κ + n')).fit.n + i = s.fit.n + (i + 1) := by show s.fit.n + 1 + i = _; omega
      rw [e] at this
      exact this
abbrev Tri := Value × Value × Value
def outK (κ : Bool) (r : TV × St) : Option (Nat × Nat) := match r.1 with
  | .v (.agg [.fc a 0, .fc b 1, .fc c 2, .fc d 0, .fc e 1, .fc f 2]) => match decide ((a = b ∧ a = c) ∧ (d = e ∧ d = f)), r.2.fit.get a, r.2.fit.get d with
    | true, some x, some y => if (bsK κ ≤ x ∧ x - bsK κ ≤ QB) ∧ (bsK κ ≤ y ∧ y - bsK κ ≤ QB) then some (a, d) else none
    | _, _, _ => none
  | _ => none
theorem outK_ok {κ : Bool} {ρ : Env} {s : St} {w : World} (H : SRel T w0 ρ s w) {tv : TV} {v : Value} (hv : TRel ρ tv v) {a d : Nat} (h : outK κ (tv, s) = some (a, d)) :
    ∃ t u : Tri, v = .agg #[t.1, t.2.1, t.2.2, u.1, u.2.1, u.2.2] ∧ T.FKK κ w (.agg #[t.1, t.2.1, t.2.2]) (ρ.m.q a) ∧ T.FKK κ w (.agg #[u.1, u.2.1, u.2.2]) (ρ.m.q d) := by
  unfold outK at h
  split at h
  · rename_i a' b c d' e f e0
    simp only at e0
    subst e0
    split at h
    · rename_i x y hd hx hy
      split at h
      · rename_i hc
        cases h
        obtain ⟨⟨rfl, rfl⟩, rfl, rfl⟩ := of_decide_eq_true hd
        obtain ⟨vs, rfl, hvs⟩ := hv
        match vs, hvs with
        | [v0, v1, v2, v3, v4, v5], ⟨⟨t, e0, h0⟩, ⟨t1, e1, h1⟩, ⟨t2, e2, h2⟩, ⟨u, e3, h3⟩, ⟨u1, e4, h4⟩, ⟨u2, e5, h5⟩, _⟩ =>
          rw [e0] at e1 e2
          rw [e3] at e4 e5
          cases e1; cases e2; cases e4; cases e5
          subst h0; subst h1; subst h2; subst h3; subst h4; subst h5
          obtain ⟨q, n, hq, hn, hf⟩ := H.m.frac a t e0
          obtain ⟨q', n', hq', hn', hf'⟩ := H.m.frac d u e3
          have hx : s.fit.get a = some x := hx
          have hy : s.fit.get d = some y := hy
          rw [hn] at hx; rw [hn'] at hy
          cases hx; cases hy
          refine ⟨t, u, rfl, ?_, ?_⟩
          · rw [getQ hq]
            obtain ⟨k, rfl⟩ : ∃ k, x = bsK κ + k := ⟨x - bsK κ, by omega⟩
            exact hf.kk (by omega)
          · rw [getQ hq']
            obtain ⟨k, rfl⟩ : ∃ k, y = bsK κ + k := ⟨y - bsK κ, by omega⟩
            exact hf'.kk (by omega)
      · cases h
    · cases h
  · cases h
/-- At the start: four numbers of a kind. -/
def sG (κ : Bool) (B : Nat) : St := ((((stOf []).addF (bsK κ + B)).addF (bsK κ + B)).addF (bsK κ + B)).addF (bsK κ + B)
theorem pushQs_Q : ∀ (vs : List Rat) (m : M), (VM.pushQs m vs).Q = m.Q ++ vs
  | [], m => by simp [VM.pushQs]
  | v :: l, m => by
    show (VM.pushQs (m.pushQ v) l).Q = _
    rw [pushQs_Q l]
    show m.Q ++ [v] ++ l = _
    simp
theorem wave2_of {gen : FuncId → Md} {call : CallF} (hc : COk T P gen call) {f : FuncId} {κ : Bool} {l : List Stp} {p q B : Nat} (hB : B = QB) (hp : placesOk l 4 = true)
    (hrun : ((call f [.agg (fcs 0 ++ fcs 1), .agg (fcs 2 ++ fcs 3)] (sG κ B)).bind fun r => .leaf (outK κ r)) = gtree l 4 (.leaf (some (p, q))))
    {w : World} (hE : T.E w) {x1 x2 x3 x4 : Rat} {t1 t2 t3 t4 : Tri} (h1 : T.FKK κ w (.agg #[t1.1, t1.2.1, t1.2.2]) x1) (h2 : T.FKK κ w (.agg #[t2.1, t2.2.1, t2.2.2]) x2) (h3 : T.FKK κ w (.agg #[t3.1, t3.2.1, t3.2.2]) x3) (h4 : T.FKK κ w (.agg #[t4.1, t4.2.1, t4.2.2]) x4)
    (f1 : Fits B x1) (f2 : Fits B x2) (f3 : Fits B x3) (f4 : Fits B x4) {vs : List Rat} (he : evs l [x1, x2, x3, x4] = [x1, x2, x3, x4] ++ vs) (hf : ∀ q ∈ vs, Fits QB q) :
    Calls P f #[.agg #[t1.1, t1.2.1, t1.2.2, t2.1, t2.2.1, t2.2.2], .agg #[t3.1, t3.2.1, t3.2.2, t4.1, t4.2.1, t4.2.2]] w fun e w' => ∃ t u : Tri, e = .returned (.agg #[t.1, t.2.1, t.2.2, u.1, u.2.1, u.2.2]) ∧
      T.FKK κ w' (.agg #[t.1, t.2.1, t.2.2]) (([x1, x2, x3, x4] ++ vs).getD p 0) ∧ T.FKK κ w' (.agg #[u.1, u.2.1, u.2.2]) (([x1, x2, x3, x4] ++ vs).getD q 0) ∧ Below w.heap.size w w' := by
  have H0 : SRel T w (env0 []) (stOf []) w := SRel.start (T := T) hE (rs := []) (l := []) trivial
  have hQ : B ≤ QB := Nat.le_of_eq hB
  have b1 : T.FK (bsK κ + B) w (.agg #[t1.1, t1.2.1, t1.2.2]) x1 := h1.to hQ
  have b2 : T.FK (bsK κ + B) w (.agg #[t2.1, t2.2.1, t2.2.2]) x2 := h2.to hQ
  have b3 : T.FK (bsK κ + B) w (.agg #[t3.1, t3.2.1, t3.2.2]) x3 := h3.to hQ
  have b4 : T.FK (bsK κ + B) w (.agg #[t4.1, t4.2.1, t4.2.2]) x4 := h4.to hQ
  have d1 := fitsK (κ := κ) f1 hQ
  have d2 := fitsK (κ := κ) f2 hQ
  have d3 := fitsK (κ := κ) f3 hQ
  have d4 := fitsK (κ := κ) f4 hQ
  obtain ⟨l1, H1⟩ := H0.pushF (Below.refl _ _) (q := x1) (t := t1) (k := bsK κ + B) b1 d1
  obtain ⟨l2, H2⟩ := H1.pushF (Below.refl _ _) (q := x2) (t := t2) (k := bsK κ + B) b2 d2
  obtain ⟨l3, H3⟩ := H2.pushF (Below.refl _ _) (q := x3) (t := t3) (k := bsK κ + B) b3 d3
  obtain ⟨l4, H4⟩ := H3.pushF (Below.refl _ _) (q := x4) (t := t4) (k := bsK κ + B) b4 d4
  have hmQ : ((((env0 []).addF x1 0 t1).addF x2 1 t2).addF x3 2 t3 |>.addF x4 3 t4).m.Q = [x1, x2, x3, x4] := rfl
  have hvc := gtree_vc (txt := T.txt) (K := fun o m => o = some (p, q) ∧ m.Q = [x1, x2, x3, x4] ++ vs) (t := .leaf (some (p, q))) l (v := [x1, x2, x3, x4]) (m := ((((env0 []).addF x1 0 t1).addF x2 1 t2).addF x3 2 t3 |>.addF x4 3 t4).m) hmQ hp he hf ⟨rfl, by rw [pushQs_Q, hmQ]⟩
  rw [show [x1, x2, x3, x4].length = 4 from rfl, ← hrun, Tree.vc_bind] at hvc
  have hav : All2 (ARel ((((env0 []).addF x1 0 t1).addF x2 1 t2).addF x3 2 t3 |>.addF x4 3 t4)) ([.agg (fcs 0 ++ fcs 1), .agg (fcs 2 ++ fcs 3)] : List AV) ([.agg #[t1.1, t1.2.1, t1.2.2, t2.1, t2.2.1, t2.2.2], .agg #[t3.1, t3.2.1, t3.2.2, t4.1, t4.2.1, t4.2.2]] : List Value) :=
    ⟨⟨[t1.1, t1.2.1, t1.2.2, t2.1, t2.2.1, t2.2.2], rfl, ⟨t1, rfl, rfl⟩, ⟨t1, rfl, rfl⟩, ⟨t1, rfl, rfl⟩, ⟨t2, rfl, rfl⟩, ⟨t2, rfl, rfl⟩, ⟨t2, rfl, rfl⟩, trivial⟩,
      ⟨[t3.1, t3.2.1, t3.2.2, t4.1, t4.2.1, t4.2.2], rfl, ⟨t3, rfl, rfl⟩, ⟨t3, rfl, rfl⟩, ⟨t3, rfl, rfl⟩, ⟨t4, rfl, rfl⟩, ⟨t4, rfl, rfl⟩, ⟨t4, rfl, rfl⟩, trivial⟩, trivial⟩
  refine Calls.mono (hc w _ (sG κ B) w f _ _ H4 hav _ hvc) ?_
  rintro e w' ⟨⟨ρ', tv, s', v, ⟨g1, g2⟩, _, g4, g5, rfl⟩, _⟩
  obtain ⟨t, u, rfl, k1, k2⟩ := outK_ok g4 g5 g1
  have e1 : ∀ a, ρ'.m.q a = ([x1, x2, x3, x4] ++ vs).getD a 0 := fun a => by unfold M.q; rw [g2]
  rw [e1] at k1 k2
  exact ⟨t, u, rfl, k1, k2, g4.h.below⟩
def sW (κ : Bool) (l : List Stp) (p q : Nat) : List AV → St → Tree (TV × St)
  | [.agg [a, b, c, d, e, f], .agg [a', b', c', d', e', f']], s => withK κ (.agg [a, b, c]) s fun i1 n1 s => withK κ (.agg [d, e, f]) s fun i2 n2 s => withK κ (.agg [a', b', c']) s fun i3 n3 s => withK κ (.agg [d', e', f']) s fun i4 n4 s =>
    stree κ l [(i1, n1), (i2, n2), (i3, n3), (i4, n4)] s fun e s => .leaf (.v (.agg (fcs (e.getD p (0, 0)).1 ++ fcs (e.getD q (0, 0)).1)), s)
  | _, _ => .fail "wave"
theorem evs_len : ∀ (l : List Stp) (v : List Rat), (evs l v).length = v.length + l.length
  | [], v => rfl
  | (o, i, j, b) :: l, v => by
    show (evs l _).length = _
    rw [evs_len l]; simp; omega
theorem esOf_get : ∀ {ns : List Nat} {a i n : Nat}, ns[i]? = some n → (esOf a ns)[i]? = some (a + i, n)
  | n' :: l, a, 0, n, h => by cases h; rfl
  | n' :: l, a, i + 1, n, h => by
    have := esOf_get (ns := l) (a := a + 1) (i := i) (n := n) (by simpa using h)
    show (esOf (a + 1) l)[i]? = _
    rw [this, show a + 1 + i = a + (i + 1) by omega]
theorem All2.get2 {α β : Type} {R : α → β → Prop} : ∀ {l : List α} {k : List β}, All2 R l k → ∀ {i : Nat} {y : β}, k[i]? = some y → ∃ x, l[i]? = some x ∧ R x y
  | _ :: _, y :: _, ⟨a, _⟩, 0, x, e => ⟨_, rfl, by simp at e; exact e ▸ a⟩
  | _ :: _, _ :: _, ⟨_, b⟩, i + 1, x, e => by simpa using All2.get2 b (i := i) (y := x) (by simpa using e)
  | [], [], _, i, x, e => by simp at e
theorem sW_ok {gen : FuncId → Md} {call : CallF} (hc : COk T P gen call) {f : FuncId} {κ : Bool} {l : List Stp} {p q : Nat} (hfit : ∀ (o : So) (a b : Nat) (x y : Rat), Fits a x → Fits b y → Fits (o.size a b) (o.val x y)) (hp : placesOk l 4 = true)
    (hpq : (4 ≤ p ∧ p < 4 + l.length) ∧ (4 ≤ q ∧ q < 4 + l.length) ∧ p ≠ q)
    (hrun : ((call f [.agg (fcs 0 ++ fcs 1), .agg (fcs 2 ++ fcs 3)] (sG κ QB)).bind fun r => .leaf (outK κ r)) = gtree l 4 (.leaf (some (p, q)))) : SOk T P f (sW κ l p q) := by
  intro w0 ρ s w avs us H hav K hK
  unfold sW at hK
  split at hK
  · rename_i a b c d e f' a' b' c' d' e' f''
    match us, hav with
    | [u, v], ⟨⟨us, hu, r1⟩, ⟨vs, hv, r2⟩, _⟩ =>
      match us, r1 with
      | [v0, v1, v2, v3, v4, v5], ⟨c0, c1, c2, c3, c4, c5, _⟩ =>
        match vs, r2 with
        | [y0, y1, y2, y3, y4, y5], ⟨z0, z1, z2, z3, z4, z5, _⟩ =>
          subst hu; subst hv
          obtain ⟨ρ1, s1, i1, n1, x1, hK, l1, H1, q1, g1, f1, m1⟩ := withK_ok H (x := .agg [a, b, c]) (v := .agg #[v0, v1, v2]) ⟨[v0, v1, v2], rfl, c0, c1, c2, trivial⟩ hK
          obtain ⟨ρ2, s2, i2, n2, x2, hK, l2, H2, q2, g2, f2, m2⟩ := withK_ok H1 (x := .agg [d, e, f']) (v := .agg #[v3, v4, v5]) ⟨[v3, v4, v5], rfl, CRel.mono l1 c3, CRel.mono l1 c4, CRel.mono l1 c5, trivial⟩ hK
          have l12 := l1.trans l2
          obtain ⟨ρ3, s3, i3, n3, x3, hK, l3, H3, q3, g3, f3, m3⟩ := withK_ok H2 (x := .agg [a', b', c']) (v := .agg #[y0, y1, y2]) ⟨[y0, y1, y2], rfl, CRel.mono l12 z0, CRel.mono l12 z1, CRel.mono l12 z2, trivial⟩ hK
          have l13 := l12.trans l3
          obtain ⟨ρ4, s4, i4, n4, x4, hK, l4, H4, q4, g4, f4, m4⟩ := withK_ok H3 (x := .agg [d', e', f'']) (v := .agg #[y3, y4, y5]) ⟨[y3, y4, y5], rfl, CRel.mono l13 z3, CRel.mono l13 z4, CRel.mono l13 z5, trivial⟩ hK
          have l14 := l13.trans l4
          have he : EvRel ρ4.m [(i1, n1), (i2, n2), (i3, n3), (i4, n4)] [x1, x2, x3, x4] :=
            ⟨⟨le_q ((l2.trans l3).trans l4) q1, f1, m1⟩, ⟨le_q (l3.trans l4) q2, f2, m2⟩, ⟨le_q l4 q3, f3, m3⟩, ⟨q4, f4, m4⟩, trivial⟩
          obtain ⟨ns, vs, k1, k2, k3, k4⟩ := stree_vc hfit l hK he H4.m.nQ hp
          have hlen : vs.length = l.length := by
            have := congrArg List.length k1
            rw [evs_len, List.length_append] at this
            omega
          have hlen' : ns.length = l.length := (All2.length k4).trans hlen
          have hvs : ∀ x ∈ vs, Fits QB x := fun x hx => by
            obtain ⟨i, hi⟩ := List.mem_iff_getElem?.1 hx
            obtain ⟨n, _, h1, h2⟩ := All2.get2 k4 hi
            exact fits_up h1 h2
          have hcall := wave2_of hc (κ := κ) rfl hp hrun (SRel.env H) (t1 := (v0, v1, v2)) (t2 := (v3, v4, v5)) (t3 := (y0, y1, y2)) (t4 := (y3, y4, y5)) g1 g2 g3 g4 (fits_up f1 m1) (fits_up f2 m2) (fits_up f3 m3) (fits_up f4 m4) k1 hvs
          refine Calls.mono hcall ?_
          rintro e0 w' ⟨t, t', rfl, r3, r4, hb⟩
          have HW := (H4.world hb).pushQs (κ := κ) k4
          have at_ : ∀ j, 4 ≤ j → j < 4 + l.length → ∃ n x, ([(i1, n1), (i2, n2), (i3, n3), (i4, n4)] ++ esOf s4.fit.n ns).getD j (0, 0) = (s4.fit.n + (j - 4), n) ∧ ([x1, x2, x3, x4] ++ vs).getD j 0 = x ∧ (VM.pushQs ρ4.m vs).Q[s4.fit.n + (j - 4)]? = some x ∧ (addFs κ s4 ns).fit.get (s4.fit.n + (j - 4)) = some (bsK κ + n) ∧ n ≤ QB ∧ s4.fit.n + (j - 4) < (addFs κ s4 ns).fit.n := by
            intro j h4 hj
            obtain ⟨n, hn⟩ : ∃ n, ns[j - 4]? = some n := ⟨_, List.getElem?_eq_getElem (by omega)⟩
            obtain ⟨x, hx, _, hle⟩ := All2.get k4 hn
            refine ⟨n, x, ?_, ?_, ?_, addFs_get κ hn, hle, by rw [addFs_n]; omega⟩
            · rw [List.getD_eq_getElem?_getD, List.getElem?_append_right (by simpa using h4)]
              show ((esOf s4.fit.n ns)[j - 4]?).getD (0, 0) = _
              rw [esOf_get hn]; rfl
            · rw [List.getD_eq_getElem?_getD, List.getElem?_append_right (by simpa using h4)]
              show ((vs)[j - 4]?).getD 0 = _
              rw [hx]; rfl
            · rw [pushQs_Q, List.getElem?_append_right (by rw [H4.m.nQ]; omega), H4.m.nQ, show s4.fit.n + (j - 4) - s4.fit.n = j - 4 by omega]
              exact hx
          obtain ⟨np, xp, p1, p2, p3, p4, p5, p6⟩ := at_ p hpq.1.1 hpq.1.2
          obtain ⟨nq, xq, o1, o2, o3, o4, o5, o6⟩ := at_ q hpq.2.1.1 hpq.2.1.2
          rw [p2] at r3
          rw [o2] at r4
          have hF : ∀ j, s4.fit.n ≤ j → ρ4.F j = none := fun j hj => H4.m.freshF j hj
          obtain ⟨la, HA⟩ := HW.setF (t := t) p6 (hF _ (Nat.le_add_right ..)) p3 p4 (r3.to p5)
          obtain ⟨lb, HB⟩ := HA.setF (t := t') o6 (by
            show (if s4.fit.n + (q - 4) = s4.fit.n + (p - 4) then some t else ρ4.F (s4.fit.n + (q - 4))) = none
            rw [if_neg (by omega)]; exact hF _ (Nat.le_add_right ..)) o3 o4 (r4.to o5)
          have k5 : K (TV.v (.agg (fcs (s4.fit.n + (p - 4)) ++ fcs (s4.fit.n + (q - 4)))), addFs κ s4 ns) (VM.pushQs ρ4.m vs) := by
            have k2 : K (TV.v (.agg (fcs (([(i1, n1), (i2, n2), (i3, n3), (i4, n4)] ++ esOf s4.fit.n ns).getD p (0, 0)).1 ++ fcs (([(i1, n1), (i2, n2), (i3, n3), (i4, n4)] ++ esOf s4.fit.n ns).getD q (0, 0)).1)), addFs κ s4 ns) (VM.pushQs ρ4.m vs) := k2
            rw [p1, o1] at k2
            exact k2
          have lz := Env.le_withM (ρ := ρ4) (pushQs_le vs ρ4.m)
          refine ⟨⟨_, TV.v (.agg (fcs (s4.fit.n + (p - 4)) ++ fcs (s4.fit.n + (q - 4)))), addFs κ s4 ns, .agg #[t.1, t.2.1, t.2.2, t'.1, t'.2.1, t'.2.2], k5, ((l14.trans lz).trans la).trans lb, HB, ?_, rfl⟩, hb⟩
          have zp : ∀ j, CRel { ρ4.withM (VM.pushQs ρ4.m vs) with F := fun j => if j = s4.fit.n + (p - 4) then some t else (ρ4.withM (VM.pushQs ρ4.m vs)).F j } (.fc (s4.fit.n + (p - 4)) j) (nth3 t j) := fun j => ⟨t, by simp, rfl⟩
          have zq : ∀ j, CRel { ({ ρ4.withM (VM.pushQs ρ4.m vs) with F := fun j => if j = s4.fit.n + (p - 4) then some t else (ρ4.withM (VM.pushQs ρ4.m vs)).F j } : Env) with F := fun j => if j = s4.fit.n + (q - 4) then some t' else ({ ρ4.withM (VM.pushQs ρ4.m vs) with F := fun j => if j = s4.fit.n + (p - 4) then some t else (ρ4.withM (VM.pushQs ρ4.m vs)).F j } : Env).F j } (.fc (s4.fit.n + (q - 4)) j) (nth3 t' j) := fun j => ⟨t', by simp, rfl⟩
          exact ⟨[t.1, t.2.1, t.2.2, t'.1, t'.2.1, t'.2.2], rfl, CRel.mono lb (zp 0), CRel.mono lb (zp 1), CRel.mono lb (zp 2), zq 0, zq 1, zq 2, trivial⟩
  · exact hK.elim
/-! Products and sums of complex numbers: as num has them, and as the reference has them. -/
def stMul : List Stp := [(.mul, 0, 2, true), (.mul, 0, 3, true), (.mul, 1, 3, true), (.neg, 6, 0, false), (.mul, 1, 2, true), (.add, 4, 7, true), (.add, 5, 8, true)]
def stAdd : List Stp := [(.add, 0, 2, true), (.add, 1, 3, true)]
def stMulR : List Stp := [(.mul, 0, 2, false), (.mul, 1, 3, false), (.neg, 5, 0, false), (.add, 4, 6, false), (.mul, 0, 3, false), (.mul, 1, 2, false), (.add, 8, 9, false)]
def stAddR : List Stp := [(.add, 0, 2, false), (.add, 1, 3, false)]
end
end Go.Proofs.VM
