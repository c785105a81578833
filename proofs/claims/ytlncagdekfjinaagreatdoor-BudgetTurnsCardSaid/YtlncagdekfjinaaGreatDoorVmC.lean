/- What the machine asks, cut back: polynomials over letters, known conditions; arguments that are plain numbers and rows of them. -/
import Derived.Test.YtlncagdekfjinaaGreatDoorVmD
import Derived.ChangeShapes
import Derived.OpenShut
namespace Go.Proofs.VM
open Go.RowKit
noncomputable section
structure Pl where
  d : Nat
  l : List (Nat × Int)
  deriving DecidableEq
def powR (x : Rat) : Nat → Rat
  | 0 => 1
  | n + 1 => powR x n * x
def evM (X : Nat → Rat) : Nat → Nat → Nat → Rat
  | 0, _, _ => 1
  | n + 1, i, m => powR (X i) (m % 256) * evM X n (i + 1) (m / 256)
def FU : Nat := 512
def evL (X : Nat → Rat) : List (Nat × Int) → Rat
  | [] => 0
  | (m, c) :: l => (c : Rat) * evM X FU 0 m + evL X l
def Pl.ev (X : Nat → Rat) (p : Pl) : Rat := evL X p.l
def Dgs : Nat → Nat → Nat → Prop
  | 0, _, m => m = 0
  | n + 1, d, m => m % 256 ≤ d ∧ Dgs n d (m / 256)
theorem Dgs.mono : ∀ {n n' d d' m : Nat}, Dgs n d m → n ≤ n' → d ≤ d' → Dgs n' d' m
  | 0, 0, _, _, _, h, _, _ => h
  | 0, n' + 1, d, d', m, h, _, hd => by
    have h : m = 0 := h
    subst h
    exact ⟨by omega, Dgs.mono (n := 0) (d := d) (show (0 / 256 : Nat) = 0 from rfl) (by omega) hd⟩
  | n + 1, n' + 1, d, d', m, ⟨h1, h2⟩, hn, hd => ⟨by omega, Dgs.mono h2 (by omega) hd⟩
theorem Dgs.add : ∀ {n d e a b : Nat}, Dgs n d a → Dgs n e b → d + e < 256 → Dgs n (d + e) (a + b)
  | 0, _, _, a, b, h, k, _ => by have h : a = 0 := h; have k : b = 0 := k; show a + b = 0; omega
  | n + 1, d, e, a, b, ⟨h1, h2⟩, ⟨k1, k2⟩, hd => by
    refine ⟨by omega, ?_⟩
    rw [show (a + b) / 256 = a / 256 + b / 256 by omega]
    exact Dgs.add h2 k2 hd
theorem powR_add (x : Rat) (a : Nat) : ∀ b, powR x (a + b) = powR x a * powR x b
  | 0 => by rw [Nat.add_zero, powR, Rat.mul_one]
  | b + 1 => by rw [← Nat.add_assoc, powR, powR, powR_add x a b, Rat.mul_assoc]
theorem evM_zero (X : Nat → Rat) : ∀ n i, evM X n i 0 = 1
  | 0, _ => rfl
  | n + 1, i => by
    show powR (X i) 0 * evM X n (i + 1) 0 = 1
    rw [evM_zero X n (i + 1), powR, Rat.mul_one]
theorem evM_add (X : Nat → Rat) : ∀ {n f i d e a b : Nat}, Dgs n d a → Dgs n e b → d + e < 256 → n ≤ f → evM X f i (a + b) = evM X f i a * evM X f i b
  | 0, f, i, _, _, a, b, h, k, _, _ => by
    have h : a = 0 := h
    have k : b = 0 := k
    subst h; subst k
    rw [Nat.add_zero, evM_zero, Rat.mul_one]
  | n + 1, f + 1, i, d, e, a, b, ⟨h1, h2⟩, ⟨k1, k2⟩, hd, hf => by
    unfold evM
    rw [show (a + b) / 256 = a / 256 + b / 256 by omega, show (a + b) % 256 = a % 256 + b % 256 by omega, evM_add X h2 k2 hd (by omega), powR_add]
    grind
theorem evM_congr {X Y : Nat → Rat} : ∀ {n f i d m : Nat}, (∀ j, j < i + n → X j = Y j) → Dgs n d m → evM X f i m = evM Y f i m
  | 0, f, i, _, m, _, h => by have h : m = 0 := h; subst h; rw [evM_zero, evM_zero]
  | n + 1, 0, _, _, _, _, _ => rfl
  | n + 1, f + 1, i, d, m, he, ⟨_, h2⟩ => by
    unfold evM
    rw [he i (by omega), evM_congr (n := n) (i := i + 1) (fun j hj => he j (by omega)) h2]
def Pl.Ok (n : Nat) (p : Pl) : Prop := ∀ t ∈ p.l, Dgs n p.d t.1
def putI (m : Nat) (e : Int) (l : List (Nat × Int)) : List (Nat × Int) := Int.rec (motive := fun _ => List (Nat × Int)) (fun n => Nat.rec (motive := fun _ => List (Nat × Int)) l (fun k _ => (m, .ofNat (k + 1)) :: l) n) (fun n => (m, .negSucc n) :: l) e
def goL (m : Nat) (c : Int) (rest : List (Nat × Int) → List (Nat × Int)) (k : List (Nat × Int)) : List (Nat × Int) :=
  List.rec (motive := fun _ => List (Nat × Int)) ((m, c) :: rest []) (fun t k x => Bool.rec (motive := fun _ => List (Nat × Int)) (Bool.rec (motive := fun _ => List (Nat × Int)) (t :: x) ((m, c) :: rest (t :: k)) (Nat.blt t.1 m)) (putI m (c + t.2) (rest k)) (Nat.beq m t.1)) k
theorem goL_cons (m : Nat) (c : Int) (rest : List (Nat × Int) → List (Nat × Int)) (m' : Nat) (c' : Int) (k : List (Nat × Int)) : goL m c rest ((m', c') :: k) = (match Nat.beq m m' with
    | true => match c + c' with
      | .ofNat 0 => rest k
      | .ofNat (n + 1) => (m, .ofNat (n + 1)) :: rest k
      | .negSucc n => (m, .negSucc n) :: rest k
    | false => match Nat.blt m' m with
      | true => (m, c) :: rest ((m', c') :: k)
      | false => (m', c') :: goL m c rest k) := by
  show Bool.rec (motive := fun _ => List (Nat × Int)) (Bool.rec (motive := fun _ => List (Nat × Int)) ((m', c') :: goL m c rest k) ((m, c) :: rest ((m', c') :: k)) (Nat.blt m' m)) (putI m (c + c') (rest k)) (Nat.beq m m') = _
  cases Nat.beq m m' with
  | true =>
    show putI m (c + c') (rest k) = _
    generalize c + c' = e
    cases e with
    | ofNat n => cases n <;> rfl
    | negSucc n => rfl
  | false => cases Nat.blt m' m <;> rfl
def addL (l : List (Nat × Int)) : List (Nat × Int) → List (Nat × Int) :=
  List.rec (motive := fun _ => List (Nat × Int) → List (Nat × Int)) (fun k => k) (fun t _ x k => goL t.1 t.2 x k) l
theorem goL_ev (X : Nat → Rat) {m : Nat} {c : Int} {rest : List (Nat × Int) → List (Nat × Int)} {v : Rat} (h : ∀ k, evL X (rest k) = v + evL X k) : ∀ k, evL X (goL m c rest k) = (c : Rat) * evM X FU 0 m + v + evL X k
  | [] => by
    show (c : Rat) * evM X FU 0 m + evL X (rest []) = _
    rw [h]; grind
  | (m', c') :: k => by
    rw [goL_cons]
    split
    · rename_i e
      have e := Nat.eq_of_beq_eq_true e
      subst e
      have hc : ((c + c' : Int) : Rat) = (c : Rat) + c' := Rat.intCast_add c c'
      have key : (c : Rat) * evM X FU 0 m + v + evL X ((m, c') :: k) = ((c + c' : Int) : Rat) * evM X FU 0 m + (v + evL X k) := by
        rw [hc]
        show (c : Rat) * evM X FU 0 m + v + ((c' : Rat) * evM X FU 0 m + evL X k) = _
        grind
      rw [key]
      split
      · rename_i e; rw [e, h]; show _ = (0 : Rat) * _ + _; grind
      · rename_i n e; rw [e]; show _ * _ + evL X (rest k) = _; rw [h]
      · rename_i n e; rw [e]; show _ * _ + evL X (rest k) = _; rw [h]
    · split
      · show _ * _ + evL X (rest ((m', c') :: k)) = _
        rw [h]; grind
      · show _ * _ + evL X (goL m c rest k) = _
        rw [goL_ev X h k]
        show _ = (c : Rat) * evM X FU 0 m + v + ((c' : Rat) * evM X FU 0 m' + evL X k)
        grind
theorem addL_ev (X : Nat → Rat) : ∀ l k, evL X (addL l k) = evL X l + evL X k
  | [], k => by show evL X k = 0 + evL X k; grind
  | (m, c) :: l, k => by
    show evL X (goL m c (addL l) k) = _
    rw [goL_ev X (v := evL X l) (fun k => addL_ev X l k)]
    rfl
theorem goL_all {R : Nat → Prop} {m : Nat} {c : Int} {rest : List (Nat × Int) → List (Nat × Int)} (hm : R m) (h : ∀ k, (∀ t ∈ k, R t.1) → ∀ t ∈ rest k, R t.1) : ∀ k, (∀ t ∈ k, R t.1) → ∀ t ∈ goL m c rest k, R t.1
  | [], hk, t, ht => by
    rcases List.mem_cons.1 ht with rfl | ht
    · exact hm
    · exact h [] hk t ht
  | (m', c') :: k, hk, t, ht => by
    have hk' : ∀ t ∈ k, R t.1 := fun t ht => hk t (List.mem_cons_of_mem _ ht)
    rw [goL_cons] at ht
    split at ht
    · split at ht
      · exact h k hk' t ht
      · rcases List.mem_cons.1 ht with rfl | ht
        · exact hm
        · exact h k hk' t ht
      · rcases List.mem_cons.1 ht with rfl | ht
        · exact hm
        · exact h k hk' t ht
    · split at ht
      · rcases List.mem_cons.1 ht with rfl | ht
        · exact hm
        · exact h _ hk t ht
      · rcases List.mem_cons.1 ht with rfl | ht
        · exact hk _ (List.mem_cons_self ..)
        · exact goL_all hm h k hk' t ht
theorem addL_all {R : Nat → Prop} : ∀ l k, (∀ t ∈ l, R t.1) → (∀ t ∈ k, R t.1) → ∀ t ∈ addL l k, R t.1
  | [], _, _, hk => hk
  | (m, c) :: l, k, hl, hk => goL_all (R := R) (hl (m, c) (List.mem_cons_self ..)) (fun k hk => addL_all l k (fun t ht => hl t (List.mem_cons_of_mem _ ht)) hk) k hk
def mulT (m : Nat) (c : Int) (l : List (Nat × Int)) : List (Nat × Int) :=
  List.rec (motive := fun _ => List (Nat × Int)) [] (fun t _ x => (m + t.1, c * t.2) :: x) l
def mulL (l k : List (Nat × Int)) : List (Nat × Int) :=
  List.rec (motive := fun _ => List (Nat × Int)) [] (fun t _ x => addL (mulT t.1 t.2 k) x) l
theorem mulT_ev (X : Nat → Rat) {n d e m : Nat} {c : Int} (hm : Dgs n d m) (hd : d + e < 256) (hn : n ≤ FU) : ∀ {k : List (Nat × Int)}, (∀ t ∈ k, Dgs n e t.1) → evL X (mulT m c k) = (c : Rat) * evM X FU 0 m * evL X k ∧ ∀ t ∈ mulT m c k, Dgs n (d + e) t.1
  | [], _ => ⟨by show (0 : Rat) = _ * 0; grind, fun t ht => nomatch ht⟩
  | (m', c') :: k, hk => by
    obtain ⟨h1, h2⟩ := mulT_ev X (c := c) hm hd hn (k := k) (fun t ht => hk t (List.mem_cons_of_mem _ ht))
    have hm' := hk (m', c') (List.mem_cons_self ..)
    refine ⟨?_, fun t ht => ?_⟩
    · show ((c * c' : Int) : Rat) * evM X FU 0 (m + m') + evL X (mulT m c k) = (c : Rat) * evM X FU 0 m * ((c' : Rat) * evM X FU 0 m' + evL X k)
      rw [h1, evM_add X hm hm' hd hn, Rat.intCast_mul]
      grind
    · rcases List.mem_cons.1 ht with rfl | ht
      · exact Dgs.add hm hm' hd
      · exact h2 t ht
theorem mulL_ev (X : Nat → Rat) {n d e : Nat} (hd : d + e < 256) (hn : n ≤ FU) : ∀ {l k : List (Nat × Int)}, (∀ t ∈ l, Dgs n d t.1) → (∀ t ∈ k, Dgs n e t.1) → evL X (mulL l k) = evL X l * evL X k ∧ ∀ t ∈ mulL l k, Dgs n (d + e) t.1
  | [], k, _, _ => ⟨by show (0 : Rat) = 0 * _; grind, fun t ht => nomatch ht⟩
  | (m, c) :: l, k, hl, hk => by
    obtain ⟨h1, h2⟩ := mulT_ev X (c := c) (hl (m, c) (List.mem_cons_self ..)) hd hn hk
    obtain ⟨h3, h4⟩ := mulL_ev X hd hn (l := l) (k := k) (fun t ht => hl t (List.mem_cons_of_mem _ ht)) hk
    refine ⟨?_, addL_all (R := Dgs n (d + e)) _ _ h2 h4⟩
    show evL X (addL (mulT m c k) (mulL l k)) = ((c : Rat) * evM X FU 0 m + evL X l) * evL X k
    rw [addL_ev, h1, h3]
    grind
def negL : List (Nat × Int) → List (Nat × Int)
  | [] => []
  | (m, c) :: l => (m, -c) :: negL l
theorem negL_ev (X : Nat → Rat) : ∀ l, evL X (negL l) = - evL X l
  | [] => by show (0 : Rat) = -0; grind
  | (m, c) :: l => by
    show ((-c : Int) : Rat) * _ + evL X (negL l) = -((c : Rat) * _ + evL X l)
    rw [negL_ev X l, Rat.intCast_neg]; grind
theorem negL_all {R : Nat → Prop} : ∀ l, (∀ t ∈ l, R t.1) → ∀ t ∈ negL l, R t.1
  | [], _, t, ht => nomatch ht
  | (m, c) :: l, hl, t, ht => by
    rcases List.mem_cons.1 ht with rfl | ht
    · exact hl (m, c) (List.mem_cons_self ..)
    · exact negL_all l (fun t ht => hl t (List.mem_cons_of_mem _ ht)) t ht
def Pl.add (p q : Pl) : Pl := ⟨Nat.max p.d q.d, addL p.l q.l⟩
def Pl.mul (p q : Pl) : Pl := ⟨p.d + q.d, mulL p.l q.l⟩
def Pl.neg (p : Pl) : Pl := ⟨p.d, negL p.l⟩
def Pl.num (n : Int) : Pl := ⟨0, match n with
  | .ofNat 0 => []
  | .ofNat (k + 1) => [(0, .ofNat (k + 1))]
  | .negSucc k => [(0, .negSucc k)]⟩
def Pl.var (i : Nat) : Pl := ⟨1, [(256 ^ i, 1)]⟩
theorem Pl.add_ok {X : Nat → Rat} {n : Nat} {p q : Pl} (hp : p.Ok n) (hq : q.Ok n) : (p.add q).ev X = p.ev X + q.ev X ∧ (p.add q).Ok n :=
  ⟨addL_ev X _ _, addL_all (R := Dgs n (Nat.max p.d q.d)) _ _ (fun t ht => (hp t ht).mono (Nat.le_refl _) (Nat.le_max_left ..)) (fun t ht => (hq t ht).mono (Nat.le_refl _) (Nat.le_max_right ..))⟩
theorem Pl.mul_ok {X : Nat → Rat} {n : Nat} {p q : Pl} (hn : n ≤ FU) (hd : p.d + q.d < 256) (hp : p.Ok n) (hq : q.Ok n) : (p.mul q).ev X = p.ev X * q.ev X ∧ (p.mul q).Ok n := mulL_ev X hd hn hp hq
theorem Pl.neg_ok {X : Nat → Rat} {n : Nat} {p : Pl} (hp : p.Ok n) : p.neg.ev X = - p.ev X ∧ p.neg.Ok n := ⟨negL_ev X _, negL_all (R := Dgs n p.d) _ hp⟩
theorem Pl.num_ok {X : Nat → Rat} {n : Nat} (k : Int) : (Pl.num k).ev X = (k : Rat) ∧ (Pl.num k).Ok n := by
  have h0 : ∀ n, Dgs n 0 0 := fun n => Dgs.mono (n := 0) (d := 0) (show (0 : Nat) = 0 from rfl) (Nat.zero_le _) (Nat.le_refl _)
  unfold Pl.num Pl.ev Pl.Ok
  split
  · exact ⟨rfl, fun t ht => nomatch ht⟩
  · refine ⟨?_, fun t ht => ?_⟩
    · show _ * evM X FU 0 0 + 0 = _
      rw [evM_zero]; grind
    · rcases List.mem_cons.1 ht with rfl | ht
      · exact h0 n
      · cases ht
  · refine ⟨?_, fun t ht => ?_⟩
    · show _ * evM X FU 0 0 + 0 = _
      rw [evM_zero]; grind
    · rcases List.mem_cons.1 ht with rfl | ht
      · exact h0 n
      · cases ht
theorem Dgs.var : ∀ {n i : Nat}, i < n → Dgs n 1 (256 ^ i)
  | n + 1, 0, _ => ⟨by decide, Dgs.mono (n := 0) (d := 1) (show (256 ^ 0 / 256 : Nat) = 0 from rfl) (Nat.zero_le _) (Nat.le_refl _)⟩
  | n + 1, i + 1, h => by
    refine ⟨?_, ?_⟩
    · rw [Nat.pow_succ, Nat.mul_mod_left]; omega
    · rw [Nat.pow_succ, Nat.mul_div_cancel _ (by decide)]
      exact Dgs.var (by omega)
theorem evM_var (X : Nat → Rat) : ∀ {f i j : Nat}, i < f → evM X f j (256 ^ i) = X (j + i)
  | f + 1, 0, j, _ => by
    show powR (X j) 1 * evM X f (j + 1) 0 = _
    rw [evM_zero]
    show 1 * X j * 1 = X j
    grind
  | f + 1, i + 1, j, h => by
    unfold evM
    rw [Nat.pow_succ, Nat.mul_mod_left, Nat.mul_div_cancel _ (by decide), evM_var X (by omega)]
    show 1 * _ = _
    rw [show j + 1 + i = j + (i + 1) by omega]; grind
theorem Pl.var_ok {X : Nat → Rat} {n i : Nat} (hi : i < n) (hn : n ≤ FU) : (Pl.var i).ev X = X i ∧ (Pl.var i).Ok n := by
  refine ⟨?_, fun t ht => ?_⟩
  · show ((1 : Int) : Rat) * evM X FU 0 (256 ^ i) + 0 = X i
    rw [evM_var X (by omega), Nat.zero_add]
    have : ((1 : Int) : Rat) = 1 := rfl
    rw [this]; grind
  · rcases List.mem_cons.1 ht with rfl | ht
    · exact Dgs.var hi
    · cases ht
theorem Pl.congr {X Y : Nat → Rat} {n : Nat} (h : ∀ j, j < n → X j = Y j) {p : Pl} (hp : p.Ok n) : p.ev X = p.ev Y := by
  have : ∀ l : List (Nat × Int), (∀ t ∈ l, Dgs n p.d t.1) → evL X l = evL Y l := by
    intro l
    induction l with
    | nil => intro _; rfl
    | cons t l ih =>
      intro hl
      obtain ⟨m, c⟩ := t
      show (c : Rat) * _ + evL X l = (c : Rat) * _ + evL Y l
      rw [ih (fun t ht => hl t (List.mem_cons_of_mem _ ht)), evM_congr (n := n) (fun j hj => h j (by omega)) (hl (m, c) (List.mem_cons_self ..))]
  exact this p.l hp
theorem Pl.Ok.mono {n n' : Nat} {p : Pl} (h : p.Ok n) (hn : n ≤ n') : p.Ok n' := fun t ht => (h t ht).mono hn (Nat.le_refl _)
end
end Go.Proofs.VM
namespace Go.Proofs.VM
open Go.RowKit
noncomputable section
structure Fm where
  p : Pl
  c : Nat
  f : List (Nat × Nat)
  deriving DecidableEq
def pl1 : Pl := Pl.num 1
def fac (F : List Pl) (i : Nat) : Pl := F.getD i pl1
def fv (X : Nat → Rat) (F : List Pl) : List (Nat × Nat) → Rat
  | [] => 1
  | (i, e) :: l => powR ((fac F i).ev X) e * fv X F l
def powP (p : Pl) : Nat → Pl
  | 0 => pl1
  | 1 => p
  | n + 2 => (powP p (n + 1)).mul p
def facP (F : List Pl) : List (Nat × Nat) → Pl
  | [] => pl1
  | [(i, e)] => powP (fac F i) e
  | (i, e) :: l => (powP (fac F i) e).mul (facP F l)
def FOk (X : Nat → Rat) (n : Nat) (F : List Pl) : Prop := ∀ i, (fac F i).Ok n ∧ (fac F i).ev X ≠ 0
theorem powR_ne {x : Rat} (h : x ≠ 0) : ∀ n, powR x n ≠ 0
  | 0 => by show (1 : Rat) ≠ 0; decide
  | n + 1 => by
    have := powR_ne h n
    unfold powR
    grind
theorem fv_ne {X : Nat → Rat} {n : Nat} {F : List Pl} (h : FOk X n F) : ∀ l, fv X F l ≠ 0
  | [] => by show (1 : Rat) ≠ 0; decide
  | (i, e) :: l => by
    have h1 := powR_ne (h i).2 e
    have h2 := fv_ne h l
    unfold fv
    grind
theorem powP_ok {X : Nat → Rat} {n : Nat} (hn : n ≤ FU) {p : Pl} (hp : p.Ok n) : ∀ e, (powP p e).d < 256 → (powP p e).ev X = powR (p.ev X) e ∧ (powP p e).Ok n
  | 0, _ => by
    have := Pl.num_ok (X := X) (n := n) 1
    exact ⟨this.1, this.2⟩
  | 1, _ => ⟨by show p.ev X = (1 : Rat) * p.ev X; grind, hp⟩
  | e + 2, h => by
    have h : (powP p (e + 1)).d + p.d < 256 := h
    obtain ⟨h1, h2⟩ := powP_ok hn hp (e + 1) (by omega)
    obtain ⟨h3, h4⟩ := Pl.mul_ok (X := X) hn h h2 hp
    refine ⟨?_, h4⟩
    show ((powP p (e + 1)).mul p).ev X = powR (p.ev X) (e + 1) * p.ev X
    rw [h3, h1]
theorem facP_ok {X : Nat → Rat} {n : Nat} (hn : n ≤ FU) {F : List Pl} (hF : FOk X n F) : ∀ l, (facP F l).d < 256 → (facP F l).ev X = fv X F l ∧ (facP F l).Ok n
  | [], _ => by
    have := Pl.num_ok (X := X) (n := n) 1
    exact ⟨this.1, this.2⟩
  | [(i, e)], h => by
    obtain ⟨h1, h2⟩ := powP_ok hn (hF i).1 e h
    refine ⟨?_, h2⟩
    show (powP (fac F i) e).ev X = powR ((fac F i).ev X) e * 1
    rw [h1]; grind
  | (i, e) :: y :: l, h => by
    have h : (powP (fac F i) e).d + (facP F (y :: l)).d < 256 := h
    obtain ⟨h1, h2⟩ := powP_ok (X := X) hn (hF i).1 e (by omega)
    obtain ⟨h3, h4⟩ := facP_ok hn hF (y :: l) (by omega)
    obtain ⟨h5, h6⟩ := Pl.mul_ok (X := X) hn h h2 h4
    refine ⟨?_, h6⟩
    show ((powP (fac F i) e).mul (facP F (y :: l))).ev X = powR ((fac F i).ev X) e * fv X F (y :: l)
    rw [h5, h1, h3]
def goF (i e : Nat) (rest : List (Nat × Nat) → List (Nat × Nat)) : List (Nat × Nat) → List (Nat × Nat)
  | [] => (i, e) :: rest []
  | (j, e') :: k => match Nat.beq i j with
    | true => (i, e + e') :: rest k
    | false => match Nat.blt i j with
      | true => (i, e) :: rest ((j, e') :: k)
      | false => (j, e') :: goF i e rest k
def mergeF : List (Nat × Nat) → List (Nat × Nat) → List (Nat × Nat)
  | [] => fun k => k
  | (i, e) :: l => fun k => goF i e (mergeF l) k
theorem goF_ev {X : Nat → Rat} {F : List Pl} {i e : Nat} {rest : List (Nat × Nat) → List (Nat × Nat)} {v : Rat} (h : ∀ k, fv X F (rest k) = v * fv X F k) : ∀ k, fv X F (goF i e rest k) = powR ((fac F i).ev X) e * v * fv X F k
  | [] => by
    show powR _ e * fv X F (rest []) = _
    rw [h]; grind
  | (j, e') :: k => by
    unfold goF
    split
    · rename_i h1
      have h1 := Nat.eq_of_beq_eq_true h1
      subst h1
      show powR _ (e + e') * fv X F (rest k) = _ * _ * (powR _ e' * fv X F k)
      rw [h, powR_add]; grind
    · split
      · show powR _ e * fv X F (rest ((j, e') :: k)) = _
        rw [h]; grind
      · show powR _ e' * fv X F (goF i e rest k) = _ * _ * (powR _ e' * fv X F k)
        rw [goF_ev h k]; grind
theorem mergeF_ev {X : Nat → Rat} {F : List Pl} : ∀ l k, fv X F (mergeF l k) = fv X F l * fv X F k
  | [], k => by show fv X F k = 1 * fv X F k; grind
  | (i, e) :: l, k => by
    show fv X F (goF i e (mergeF l) k) = _
    rw [goF_ev (v := fv X F l) (fun k => mergeF_ev l k)]
    rfl
def getF : List (Nat × Nat) → Nat → Nat
  | [], _ => 0
  | (j, e) :: l, i => match Nat.beq i j with
    | true => e
    | false => getF l i
def minusF (f : List (Nat × Nat)) : List (Nat × Nat) → List (Nat × Nat)
  | [] => []
  | (i, e) :: l => match e - getF f i with
    | 0 => minusF f l
    | n + 1 => (i, n + 1) :: minusF f l
def eqF : List (Nat × Nat) → List (Nat × Nat) → Bool
  | [], [] => true
  | (i, e) :: l, (j, e') :: k => Nat.beq i j && Nat.beq e e' && eqF l k
  | _, _ => false
theorem eqF_ok : ∀ {l k : List (Nat × Nat)}, eqF l k = true → l = k
  | [], [], _ => rfl
  | (i, e) :: l, (j, e') :: k, h => by
    unfold eqF at h
    simp only [Bool.and_eq_true] at h
    rw [Nat.eq_of_beq_eq_true h.1.1, Nat.eq_of_beq_eq_true h.1.2, eqF_ok h.2]
  | [], _ :: _, h => nomatch h
  | _ :: _, [], h => nomatch h
def mulN (p : Pl) (k : Nat) : Pl := match k with
  | 1 => p
  | k => p.mul (Pl.num k)
def mulF (F : List Pl) (p : Pl) (m : List (Nat × Nat)) : Pl := match m with
  | [] => p
  | m => p.mul (facP F m)
theorem mulN_ok {X : Nat → Rat} {n : Nat} (hn : n ≤ FU) {p : Pl} (hp : p.Ok n) {k : Nat} (hd : (mulN p k).d < 256) : (mulN p k).ev X = p.ev X * (k : Rat) ∧ (mulN p k).Ok n := by
  unfold mulN at hd ⊢
  split
  · exact ⟨by show _ = _ * ((1 : Nat) : Rat); rw [show ((1 : Nat) : Rat) = 1 from rfl]; grind, hp⟩
  · have hk := Pl.num_ok (X := X) (n := n) (k : Int)
    split at hd
    · rename_i h; exact absurd rfl h
    · obtain ⟨h1, h2⟩ := Pl.mul_ok (X := X) hn hd hp hk.2
      exact ⟨by rw [h1, hk.1]; rfl, h2⟩
theorem mulF_ok {X : Nat → Rat} {n : Nat} (hn : n ≤ FU) {F : List Pl} (hF : FOk X n F) {p : Pl} (hp : p.Ok n) {m : List (Nat × Nat)} (hd : (mulF F p m).d < 256) : (mulF F p m).ev X = p.ev X * fv X F m ∧ (mulF F p m).Ok n := by
  cases m with
  | nil => exact ⟨by show p.ev X = p.ev X * (1 : Rat); grind, hp⟩
  | cons y m =>
    have hd : p.d + (facP F (y :: m)).d < 256 := hd
    obtain ⟨h1, h2⟩ := facP_ok (X := X) hn hF (y :: m) (by omega)
    obtain ⟨h3, h4⟩ := Pl.mul_ok (X := X) hn hd hp h2
    exact ⟨by show (p.mul (facP F (y :: m))).ev X = _; rw [h3, h1], h4⟩
theorem mulN_d {p : Pl} {k : Nat} : p.d ≤ (mulN p k).d := by
  unfold mulN
  split
  · exact Nat.le_refl _
  · show p.d ≤ p.d + _; omega
def den (X : Nat → Rat) (F : List Pl) (a : Fm) : Rat := ((a.c + 1 : Nat) : Rat) * fv X F a.f
theorem goF_all {R : Nat → Prop} {i e : Nat} {rest : List (Nat × Nat) → List (Nat × Nat)} (hi : R i) (h : ∀ k, (∀ t ∈ k, R t.1) → ∀ t ∈ rest k, R t.1) : ∀ k, (∀ t ∈ k, R t.1) → ∀ t ∈ goF i e rest k, R t.1
  | [], hk, t, ht => by
    rcases List.mem_cons.1 ht with rfl | ht
    · exact hi
    · exact h [] hk t ht
  | (j, e') :: k, hk, t, ht => by
    have hk' : ∀ t ∈ k, R t.1 := fun t ht => hk t (List.mem_cons_of_mem _ ht)
    unfold goF at ht
    split at ht
    · rcases List.mem_cons.1 ht with rfl | ht
      · exact hi
      · exact h k hk' t ht
    · split at ht
      · rcases List.mem_cons.1 ht with rfl | ht
        · exact hi
        · exact h _ hk t ht
      · rcases List.mem_cons.1 ht with rfl | ht
        · exact hk _ (List.mem_cons_self ..)
        · exact goF_all hi h k hk' t ht
theorem mergeF_all {R : Nat → Prop} : ∀ l k, (∀ t ∈ l, R t.1) → (∀ t ∈ k, R t.1) → ∀ t ∈ mergeF l k, R t.1
  | [], _, _, hk => hk
  | (i, e) :: l, k, hl, hk => goF_all (R := R) (hl (i, e) (List.mem_cons_self ..)) (fun k hk => mergeF_all l k (fun t ht => hl t (List.mem_cons_of_mem _ ht)) hk) k hk
theorem minusF_all {R : Nat → Prop} {f : List (Nat × Nat)} : ∀ l, (∀ t ∈ l, R t.1) → ∀ t ∈ minusF f l, R t.1
  | [], _, t, ht => nomatch ht
  | (i, e) :: l, hl, t, ht => by
    unfold minusF at ht
    have hl' : ∀ t ∈ l, R t.1 := fun t ht => hl t (List.mem_cons_of_mem _ ht)
    split at ht
    · exact minusF_all l hl' t ht
    · rcases List.mem_cons.1 ht with rfl | ht
      · exact hl (i, e) (List.mem_cons_self ..)
      · exact minusF_all l hl' t ht
structure Fm.Is (X : Nat → Rat) (n : Nat) (F : List Pl) (a : Fm) (q : Rat) : Prop where
  ok : a.p.Ok n
  lt : ∀ t ∈ a.f, t.1 < F.length
  eq : q * den X F a = a.p.ev X
theorem natR_ne (c : Nat) : ((c + 1 : Nat) : Rat) ≠ 0 := fun e => by
  have e1 : ((c + 1 : Nat) : Rat).num = (0 : Rat).num := by rw [e]
  have : ((c + 1 : Nat) : Int) = 0 := e1
  omega
theorem den_ne {X : Nat → Rat} {n : Nat} {F : List Pl} (h : FOk X n F) (a : Fm) : den X F a ≠ 0 := by
  have h1 := natR_ne a.c
  have h2 := fv_ne h a.f
  unfold den
  grind
def badF : Fm := ⟨⟨256, []⟩, 0, []⟩
def Fm.int (n : Int) : Fm := ⟨Pl.num n, 0, []⟩
def Fm.neg (a : Fm) : Fm := ⟨a.p.neg, a.c, a.f⟩
def addC (x y : Pl) (a b : Nat) (f : List (Nat × Nat)) : Fm :=
  match Nat.beq a b with
  | true => ⟨x.add y, a, f⟩
  | false => match Nat.lcm (a + 1) (b + 1) with
    | 0 => badF
    | L + 1 => match Nat.beq ((a + 1) * ((L + 1) / (a + 1))) (L + 1) && Nat.beq ((b + 1) * ((L + 1) / (b + 1))) (L + 1) with
      | true => ⟨(mulN x ((L + 1) / (a + 1))).add (mulN y ((L + 1) / (b + 1))), L, f⟩
      | false => badF
def Fm.add (F : List Pl) (a b : Fm) : Fm :=
  match eqF (mergeF a.f (minusF a.f b.f)) (mergeF b.f (minusF b.f a.f)) with
  | false => badF
  | true => addC (mulF F a.p (minusF a.f b.f)) (mulF F b.p (minusF b.f a.f)) a.c b.c (mergeF a.f (minusF a.f b.f))
def Fm.mul (a b : Fm) : Fm := ⟨a.p.mul b.p, (a.c + 1) * (b.c + 1) - 1, mergeF a.f b.f⟩
theorem addC_ok {X : Nat → Rat} {n : Nat} (hn : n ≤ FU) {F : List Pl} {x y : Pl} {a b : Nat} {f : List (Nat × Nat)} {q r : Rat} (hx : x.Ok n) (hy : y.Ok n) (hf : ∀ t ∈ f, t.1 < F.length) (ex : q * (((a + 1 : Nat) : Rat) * fv X F f) = x.ev X) (ey : r * (((b + 1 : Nat) : Rat) * fv X F f) = y.ev X) (hd : (addC x y a b f).p.d < 256) : (addC x y a b f).Is X n F (q + r) := by
  unfold addC at hd ⊢
  split
  · rename_i h
    have h := Nat.eq_of_beq_eq_true h
    subst h
    obtain ⟨h1, h2⟩ := Pl.add_ok (X := X) hx hy
    refine ⟨h2, hf, ?_⟩
    show (q + r) * (((a + 1 : Nat) : Rat) * fv X F f) = (x.add y).ev X
    rw [h1, ← ex, ← ey]; grind
  · rename_i h
    rw [h] at hd
    simp only at hd
    split
    · rename_i e; simp only [e] at hd; exact absurd (show (256 : Nat) < 256 from hd) (by decide)
    · rename_i L e
      simp only [e] at hd
      split
      · rename_i hL
        rw [hL] at hd
        simp only [Bool.and_eq_true] at hL
        have ha := Nat.eq_of_beq_eq_true hL.1
        have hb := Nat.eq_of_beq_eq_true hL.2
        have hd : Nat.max (mulN x ((L + 1) / (a + 1))).d (mulN y ((L + 1) / (b + 1))).d < 256 := hd
        have hd1 : (mulN x ((L + 1) / (a + 1))).d < 256 := Nat.lt_of_le_of_lt (Nat.le_max_left ..) hd
        have hd2 : (mulN y ((L + 1) / (b + 1))).d < 256 := Nat.lt_of_le_of_lt (Nat.le_max_right ..) hd
        obtain ⟨h1, h2⟩ := mulN_ok (X := X) hn hx hd1
        obtain ⟨h3, h4⟩ := mulN_ok (X := X) hn hy hd2
        obtain ⟨h5, h6⟩ := Pl.add_ok (X := X) h2 h4
        refine ⟨h6, hf, ?_⟩
        show (q + r) * (((L + 1 : Nat) : Rat) * fv X F f) = ((mulN x ((L + 1) / (a + 1))).add (mulN y ((L + 1) / (b + 1)))).ev X
        rw [h5, h1, h3, ← ex, ← ey]
        have ea : ((L + 1 : Nat) : Rat) = ((a + 1 : Nat) : Rat) * (((L + 1) / (a + 1) : Nat) : Rat) := by rw [← Rat.natCast_mul, ha]
        have eb : ((L + 1 : Nat) : Rat) = ((b + 1 : Nat) : Rat) * (((L + 1) / (b + 1) : Nat) : Rat) := by rw [← Rat.natCast_mul, hb]
        have : (q + r) * (((L + 1 : Nat) : Rat) * fv X F f) = q * (((L + 1 : Nat) : Rat) * fv X F f) + r * (((L + 1 : Nat) : Rat) * fv X F f) := by grind
        rw [this]
        rw [show q * (((L + 1 : Nat) : Rat) * fv X F f) = q * ((((a + 1 : Nat) : Rat) * (((L + 1) / (a + 1) : Nat) : Rat)) * fv X F f) by rw [← ea]]
        rw [show r * (((L + 1 : Nat) : Rat) * fv X F f) = r * ((((b + 1 : Nat) : Rat) * (((L + 1) / (b + 1) : Nat) : Rat)) * fv X F f) by rw [← eb]]
        grind
      · rename_i hL; rw [hL] at hd; exact absurd (show (256 : Nat) < 256 from hd) (by decide)
theorem Fm.add_ok {X : Nat → Rat} {n : Nat} (hn : n ≤ FU) {F : List Pl} (hF : FOk X n F) {a b : Fm} {q r : Rat} (ha : a.Is X n F q) (hb : b.Is X n F r) (hd : (a.add F b).p.d < 256) : (a.add F b).Is X n F (q + r) := by
  unfold Fm.add at hd ⊢
  split
  · rename_i h; rw [h] at hd; exact absurd (show (256 : Nat) < 256 from hd) (by decide)
  · rename_i h
    rw [h] at hd
    have h := eqF_ok h
    have hv : fv X F a.f * fv X F (minusF a.f b.f) = fv X F b.f * fv X F (minusF b.f a.f) := by rw [← mergeF_ev, h, mergeF_ev]
    have hd2 : (mulF F a.p (minusF a.f b.f)).d < 256 ∧ (mulF F b.p (minusF b.f a.f)).d < 256 := by
      revert hd
      show (addC _ _ _ _ _).p.d < 256 → _
      unfold addC
      split
      · intro hd; exact ⟨Nat.lt_of_le_of_lt (Nat.le_max_left ..) hd, Nat.lt_of_le_of_lt (Nat.le_max_right ..) hd⟩
      · split
        · intro hd; exact absurd (show (256 : Nat) < 256 from hd) (by decide)
        · split
          · intro hd; exact ⟨Nat.lt_of_le_of_lt (Nat.le_trans mulN_d (Nat.le_max_left ..)) hd, Nat.lt_of_le_of_lt (Nat.le_trans mulN_d (Nat.le_max_right ..)) hd⟩
          · intro hd; exact absurd (show (256 : Nat) < 256 from hd) (by decide)
    obtain ⟨h1, h2⟩ := mulF_ok (X := X) hn hF ha.ok hd2.1
    obtain ⟨h3, h4⟩ := mulF_ok (X := X) hn hF hb.ok hd2.2
    have ea := ha.eq
    have eb := hb.eq
    unfold den at ea eb
    refine addC_ok hn h2 h4 (mergeF_all (R := (· < F.length)) _ _ ha.lt (minusF_all (R := (· < F.length)) _ hb.lt)) ?_ ?_ hd
    · rw [h1, ← ea, mergeF_ev]; grind
    · rw [h3, ← eb, mergeF_ev, hv]; grind
theorem Fm.mul_ok {X : Nat → Rat} {n : Nat} (hn : n ≤ FU) {F : List Pl} {a b : Fm} {q r : Rat} (ha : a.Is X n F q) (hb : b.Is X n F r) (hd : (a.mul b).p.d < 256) : (a.mul b).Is X n F (q * r) := by
  obtain ⟨h1, h2⟩ := Pl.mul_ok (X := X) hn hd ha.ok hb.ok
  refine ⟨h2, mergeF_all (R := (· < F.length)) _ _ ha.lt hb.lt, ?_⟩
  show q * r * ((((a.c + 1) * (b.c + 1) - 1 + 1 : Nat) : Rat) * fv X F (mergeF a.f b.f)) = (a.p.mul b.p).ev X
  have hc : (a.c + 1) * (b.c + 1) - 1 + 1 = (a.c + 1) * (b.c + 1) := by
    have : 0 < (a.c + 1) * (b.c + 1) := Nat.mul_pos (by omega) (by omega)
    omega
  have ea := ha.eq
  have eb := hb.eq
  unfold den at ea eb
  rw [h1, hc, mergeF_ev, Rat.natCast_mul, ← ea, ← eb]
  grind
theorem Fm.neg_ok {X : Nat → Rat} {n : Nat} {F : List Pl} {a : Fm} {q : Rat} (ha : a.Is X n F q) : a.neg.Is X n F (-q) := by
  obtain ⟨h1, h2⟩ := Pl.neg_ok (X := X) ha.ok
  refine ⟨h2, ha.lt, ?_⟩
  show -q * den X F a = a.p.neg.ev X
  rw [h1, ← ha.eq]; grind
theorem Fm.int_ok {X : Nat → Rat} {n : Nat} {F : List Pl} (k : Int) : (Fm.int k).Is X n F (k : Rat) := by
  obtain ⟨h1, h2⟩ := Pl.num_ok (X := X) (n := n) k
  refine ⟨h2, (fun t ht => nomatch ht), ?_⟩
  show (k : Rat) * (((0 + 1 : Nat) : Rat) * 1) = (Pl.num k).ev X
  rw [h1, show ((0 + 1 : Nat) : Rat) = 1 from rfl]; grind
def divC (x : Pl) (a b : Nat) (f : List (Nat × Nat)) : Fm :=
  match Nat.beq a b with
  | true => ⟨x, 0, f⟩
  | false => ⟨mulN x (b + 1), a, f⟩
def negIf (neg : Bool) (p : Pl) : Pl := match neg with
  | true => p.neg
  | false => p
theorem negIf_ok {X : Nat → Rat} {n : Nat} {p : Pl} (hp : p.Ok n) (neg : Bool) : (negIf neg p).ev X = (if neg = true then - p.ev X else p.ev X) ∧ (negIf neg p).Ok n := by
  cases neg with
  | true => exact Pl.neg_ok hp
  | false => exact ⟨rfl, hp⟩
def Fm.div (F : List Pl) (a b : Fm) (i : Nat) (neg : Bool) : Fm :=
  match eqF (mergeF a.f (minusF a.f b.f)) (mergeF b.f (minusF b.f a.f)) with
  | false => badF
  | true => divC (mulF F (negIf neg a.p) (minusF a.f b.f)) a.c b.c (mergeF (minusF b.f a.f) [(i, 1)])
theorem divC_ok {X : Nat → Rat} {n : Nat} (hn : n ≤ FU) {F : List Pl} {x : Pl} {a b : Nat} {f : List (Nat × Nat)} {q : Rat} (hx : x.Ok n) (hf : ∀ t ∈ f, t.1 < F.length) (ex : q * (((a + 1 : Nat) : Rat) * fv X F f) = x.ev X * ((b + 1 : Nat) : Rat)) (hd : (divC x a b f).p.d < 256) : (divC x a b f).Is X n F q := by
  unfold divC at hd ⊢
  split
  · rename_i h
    have h := Nat.eq_of_beq_eq_true h
    subst h
    refine ⟨hx, hf, ?_⟩
    show q * (((0 + 1 : Nat) : Rat) * fv X F f) = x.ev X
    rw [show ((0 + 1 : Nat) : Rat) = 1 from rfl]
    have := natR_ne a
    grind
  · rename_i h
    rw [h] at hd
    obtain ⟨h1, h2⟩ := mulN_ok (X := X) hn hx hd
    refine ⟨h2, hf, ?_⟩
    show q * (((a + 1 : Nat) : Rat) * fv X F f) = (mulN x (b + 1)).ev X
    rw [h1, ex]
theorem Fm.div_ok {X : Nat → Rat} {n : Nat} (hn : n ≤ FU) {F : List Pl} (hF : FOk X n F) {a b : Fm} {q r : Rat} {i : Nat} {neg : Bool} (ha : a.Is X n F q) (hb : b.Is X n F r) (hr : r ≠ 0) (hl : i < F.length) (hi : (fac F i).ev X = if neg = true then - b.p.ev X else b.p.ev X) (hd : (a.div F b i neg).p.d < 256) : (a.div F b i neg).Is X n F (q / r) := by
  unfold Fm.div at hd ⊢
  split
  · rename_i h; rw [h] at hd; exact absurd (show (256 : Nat) < 256 from hd) (by decide)
  · rename_i h
    rw [h] at hd
    have h := eqF_ok h
    have hv : fv X F a.f * fv X F (minusF a.f b.f) = fv X F b.f * fv X F (minusF b.f a.f) := by rw [← mergeF_ev, h, mergeF_ev]
    have hap : (negIf neg a.p).Ok n := (negIf_ok (X := X) ha.ok neg).2
    have hd2 : (mulF F (negIf neg a.p) (minusF a.f b.f)).d < 256 := by
      revert hd
      show (divC _ _ _ _).p.d < 256 → _
      unfold divC
      split
      · intro hd; exact hd
      · intro hd; exact Nat.lt_of_le_of_lt mulN_d hd
    obtain ⟨h1, h2⟩ := mulF_ok (X := X) hn hF hap hd2
    have ea := ha.eq
    have eb := hb.eq
    unfold den at ea eb
    refine divC_ok hn h2 (mergeF_all (R := (· < F.length)) _ _ (minusF_all (R := (· < F.length)) _ ha.lt) (fun t ht => by rcases List.mem_cons.1 ht with rfl | ht; exact hl; cases ht)) ?_ hd
    rw [h1, mergeF_ev]
    have n1 := fv_ne hF a.f
    have n2 := fv_ne hF b.f
    have n3 := natR_ne a.c
    have n4 := natR_ne b.c
    have e1 : fv X F [(i, 1)] = (fac F i).ev X := by
      show powR _ 1 * 1 = _
      show 1 * _ * 1 = _
      grind
    rw [e1, hi]
    generalize fv X F a.f = A at *
    generalize fv X F b.f = B at *
    generalize fv X F (minusF a.f b.f) = A2 at *
    generalize fv X F (minusF b.f a.f) = B2 at *
    generalize ((a.c + 1 : Nat) : Rat) = ca at *
    generalize ((b.c + 1 : Nat) : Rat) = cb at *
    rw [(negIf_ok ha.ok neg).1]
    cases neg with
    | true =>
      simp only [if_true]
      rw [← ea, ← eb]
      grind
    | false =>
      simp only [Bool.false_eq_true, if_false]
      rw [← ea, ← eb]
      grind
end
end Go.Proofs.VM
namespace Go.Proofs.VM
open Go.RowKit
noncomputable section
inductive Cd where
  | z (p : Pl)
  | s (p : Pl)
  | al (l : List Pl)
  | lts (l : List Pl)
def Cd.holds (X : Nat → Rat) : Cd → Prop
  | .z p => p.ev X = 0
  | .s p => 0 < p.ev X
  | .al l => ∀ p ∈ l, p.ev X = 0
  | .lts l => ∀ p ∈ l, 0 < p.ev X
def Cd.Ok (n : Nat) : Cd → Prop
  | .z p => p.Ok n
  | .s p => p.Ok n
  | .al l => ∀ p ∈ l, p.Ok n
  | .lts l => ∀ p ∈ l, p.Ok n
def eqI : Int → Int → Bool
  | .ofNat a, .ofNat b => Nat.beq a b
  | .negSucc a, .negSucc b => Nat.beq a b
  | _, _ => false
theorem eqI_ok : ∀ {a b : Int}, eqI a b = true → a = b
  | .ofNat a, .ofNat b, h => by rw [Nat.eq_of_beq_eq_true h]
  | .negSucc a, .negSucc b, h => by rw [Nat.eq_of_beq_eq_true h]
  | .ofNat _, .negSucc _, h => nomatch h
  | .negSucc _, .ofNat _, h => nomatch h
def eqL : List (Nat × Int) → List (Nat × Int) → Bool
  | [], [] => true
  | (m, c) :: l, (n, e) :: k => Nat.beq m n && eqI c e && eqL l k
  | _, _ => false
theorem eqL_ok : ∀ {l k : List (Nat × Int)}, eqL l k = true → l = k
  | [], [], _ => rfl
  | (m, c) :: l, (n, e) :: k, h => by
    unfold eqL at h
    simp only [Bool.and_eq_true] at h
    rw [Nat.eq_of_beq_eq_true h.1.1, eqI_ok h.1.2, eqL_ok h.2]
  | [], _ :: _, h => nomatch h
  | _ :: _, [], h => nomatch h
def eqLs : List Pl → List Pl → Bool
  | [], [] => true
  | p :: l, q :: k => eqL p.l q.l && eqLs l k
  | _, _ => false
def qZ (l nl : List (Nat × Int)) : List (Cd × Bool) → Option Bool
  | [] => none
  | (.z p, b) :: K => match eqL p.l l || eqL p.l nl with
    | true => some b
    | false => qZ l nl K
  | (.s p, true) :: K => match eqL p.l l || eqL p.l nl with
    | true => some false
    | false => qZ l nl K
  | _ :: K => qZ l nl K
def qS (l nl : List (Nat × Int)) : List (Cd × Bool) → Option Bool
  | [] => none
  | (.z p, true) :: K => match eqL p.l l || eqL p.l nl with
    | true => some false
    | false => qS l nl K
  | (.s p, b) :: K => match eqL p.l l with
    | true => some b
    | false => match b && eqL p.l nl with
      | true => some false
      | false => qS l nl K
  | _ :: K => qS l nl K
def qA (l : List Pl) : List (Cd × Bool) → Option Bool
  | [] => none
  | (.al k, b) :: K => match eqLs k l with
    | true => some b
    | false => qA l K
  | _ :: K => qA l K
def qT (l : List Pl) : List (Cd × Bool) → Option Bool
  | [] => none
  | (.lts k, b) :: K => match eqLs k l with
    | true => some b
    | false => qT l K
  | _ :: K => qT l K
def cZ : List (Nat × Int) → Option Bool
  | [] => some true
  | [(0, .ofNat (_ + 1))] => some false
  | [(0, .negSucc _)] => some false
  | _ => none
def cS : List (Nat × Int) → Option Bool
  | [] => some false
  | [(0, .ofNat (_ + 1))] => some true
  | [(0, .negSucc _)] => some false
  | _ => none
def isFac : List Pl → List (Nat × Int) → List (Nat × Int) → Nat → Option (Nat × Bool)
  | [], _, _, _ => none
  | p :: F, l, nl, i => match eqL p.l l with
    | true => some (i, false)
    | false => match eqL p.l nl with
      | true => some (i, true)
      | false => isFac F l nl (i + 1)
def KOk (X : Nat → Rat) (n : Nat) (K : List (Cd × Bool)) : Prop := ∀ x ∈ K, x.1.Ok n ∧ (x.2 = true ↔ x.1.holds X)
variable {X : Nat → Rat} {n : Nat}
theorem ev_of {p q : Pl} (h : eqL p.l q.l = true) : p.ev X = q.ev X := by unfold Pl.ev; rw [eqL_ok h]
theorem ev_ofL {p : Pl} {l : List (Nat × Int)} (h : eqL p.l l = true) : p.ev X = evL X l := by unfold Pl.ev; rw [eqL_ok h]
theorem evs_of {R : Rat → Prop} : ∀ {l k : List Pl}, eqLs k l = true → ((∀ p ∈ k, R (p.ev X)) ↔ ∀ p ∈ l, R (p.ev X))
  | [], [], _ => by simp
  | q :: l, p :: k, h => by
    unfold eqLs at h
    rw [Bool.and_eq_true] at h
    have ih := evs_of (R := R) h.2
    simp only [List.mem_cons, forall_eq_or_imp]
    rw [ih, ev_of h.1]
  | [], _ :: _, h => nomatch h
  | _ :: _, [], h => nomatch h
theorem qZ_ok {l : List (Nat × Int)} : ∀ {K : List (Cd × Bool)}, KOk X n K → ∀ {b : Bool}, qZ l (negL l) K = some b → (b = true ↔ evL X l = 0)
  | [], _, _, h => nomatch h
  | (k, v) :: K, hK, b, h => by
    have hK' : KOk X n K := fun x hx => hK x (List.mem_cons_of_mem _ hx)
    have h0 := (hK (k, v) (List.mem_cons_self ..)).2
    have ih := qZ_ok (l := l) hK' (b := b)
    cases k with
    | z p =>
      unfold qZ at h
      split at h
      · rename_i he
        cases h
        rw [h0]
        show p.ev X = 0 ↔ _
        rw [Bool.or_eq_true] at he
        rcases he with he | he
        · rw [ev_ofL he]
        · rw [ev_ofL he, negL_ev]; grind
      · exact ih h
    | s p =>
      cases v with
      | true =>
        unfold qZ at h
        split at h
        · rename_i he
          cases h
          have h0 : 0 < p.ev X := h0.1 rfl
          rw [Bool.or_eq_true] at he
          rcases he with he | he
          · rw [ev_ofL he] at h0; constructor
            · intro h; cases h
            · intro h; rw [h] at h0; exact absurd h0 (by decide)
          · rw [ev_ofL he, negL_ev] at h0; constructor
            · intro h; cases h
            · intro h; rw [h] at h0; exact absurd h0 (by decide)
        · exact ih h
      | false => exact ih h
    | al l => exact ih h
    | lts l => exact ih h
theorem qS_ok {l : List (Nat × Int)} : ∀ {K : List (Cd × Bool)}, KOk X n K → ∀ {b : Bool}, qS l (negL l) K = some b → (b = true ↔ 0 < evL X l)
  | [], _, _, h => nomatch h
  | (k, v) :: K, hK, b, h => by
    have hK' : KOk X n K := fun x hx => hK x (List.mem_cons_of_mem _ hx)
    have h0 := (hK (k, v) (List.mem_cons_self ..)).2
    have ih := qS_ok (l := l) hK' (b := b)
    cases k with
    | z p =>
      cases v with
      | true =>
        unfold qS at h
        split at h
        · rename_i he
          cases h
          have h0 : p.ev X = 0 := h0.1 rfl
          rw [Bool.or_eq_true] at he
          rcases he with he | he
          · rw [ev_ofL he] at h0; rw [h0]; constructor
            · intro h; cases h
            · intro h; exact absurd h (by decide)
          · rw [ev_ofL he, negL_ev] at h0
            have : evL X l = 0 := by grind
            rw [this]; constructor
            · intro h; cases h
            · intro h; exact absurd h (by decide)
        · exact ih h
      | false => exact ih h
    | s p =>
      unfold qS at h
      split at h
      · rename_i he
        cases h
        rw [h0]
        show 0 < p.ev X ↔ _
        rw [ev_ofL he]
      · split at h
        · rename_i he
          cases h
          rw [Bool.and_eq_true] at he
          have h0 : 0 < p.ev X := h0.1 he.1
          rw [ev_ofL he.2, negL_ev] at h0
          constructor
          · intro h; cases h
          · intro h; exact absurd h (by grind)
        · exact ih h
    | al l => exact ih h
    | lts l => exact ih h
theorem qA_ok {l : List Pl} : ∀ {K : List (Cd × Bool)}, KOk X n K → ∀ {b : Bool}, qA l K = some b → (b = true ↔ ∀ p ∈ l, p.ev X = 0)
  | [], _, _, h => nomatch h
  | (k, v) :: K, hK, b, h => by
    have hK' : KOk X n K := fun x hx => hK x (List.mem_cons_of_mem _ hx)
    have h0 := (hK (k, v) (List.mem_cons_self ..)).2
    have ih := qA_ok (l := l) hK' (b := b)
    cases k with
    | al k =>
      unfold qA at h
      split at h
      · rename_i he
        cases h
        rw [h0]
        exact evs_of (R := fun x => x = 0) he
      · exact ih h
    | z p => exact ih h
    | s p => exact ih h
    | lts l => exact ih h
theorem qT_ok {l : List Pl} : ∀ {K : List (Cd × Bool)}, KOk X n K → ∀ {b : Bool}, qT l K = some b → (b = true ↔ ∀ p ∈ l, 0 < p.ev X)
  | [], _, _, h => nomatch h
  | (k, v) :: K, hK, b, h => by
    have hK' : KOk X n K := fun x hx => hK x (List.mem_cons_of_mem _ hx)
    have h0 := (hK (k, v) (List.mem_cons_self ..)).2
    have ih := qT_ok (l := l) hK' (b := b)
    cases k with
    | lts k =>
      unfold qT at h
      split at h
      · rename_i he
        cases h
        rw [h0]
        exact evs_of (R := fun x => 0 < x) he
      · exact ih h
    | z p => exact ih h
    | s p => exact ih h
    | al l => exact ih h
theorem evC (c : Int) : evL X [(0, c)] = (c : Rat) := by
  show _ * evM X FU 0 0 + 0 = _
  rw [evM_zero]; grind
theorem posR {k : Nat} : (0 : Rat) < ((Int.ofNat (k + 1) : Int) : Rat) := Rat.intCast_pos.2 (show (0 : Int) < ((k + 1 : Nat) : Int) by omega)
theorem negR {k : Nat} : ((Int.negSucc k : Int) : Rat) < 0 := Rat.intCast_neg_iff.2 (by omega)
theorem cZ_ok {l : List (Nat × Int)} {b : Bool} (h : cZ l = some b) : b = true ↔ evL X l = 0 := by
  unfold cZ at h
  split at h
  · cases h; exact ⟨fun _ => rfl, fun _ => rfl⟩
  · rename_i k
    cases h
    rw [evC]
    have := posR (k := k)
    grind
  · rename_i k
    cases h
    rw [evC]
    have := negR (k := k)
    grind
  · cases h
theorem cS_ok {l : List (Nat × Int)} {b : Bool} (h : cS l = some b) : b = true ↔ 0 < evL X l := by
  unfold cS at h
  split at h
  · cases h; exact ⟨fun h => (nomatch h), fun h => absurd (show (0 : Rat) < 0 from h) (by decide)⟩
  · rename_i k
    cases h
    rw [evC]
    have := posR (k := k)
    grind
  · rename_i k
    cases h
    rw [evC]
    have := negR (k := k)
    grind
  · cases h
theorem sq_pos {x : Rat} (h : x ≠ 0) : 0 < x * x := by
  rcases Rat.le_total (a := 0) (b := x) with h1 | h1
  · have : 0 < x := by grind
    exact Rat.mul_pos this this
  · have : 0 < -x := by grind
    have := Rat.mul_pos this this
    grind
def mulB (x y : Int × Int) : Int × Int := (min4 (x.1 * y.1) (x.1 * y.2) (x.2 * y.1) (x.2 * y.2), max4 (x.1 * y.1) (x.1 * y.2) (x.2 * y.1) (x.2 * y.2))
def sqB (x : Int × Int) : Int × Int := if 0 ≤ x.1 then (x.1 * x.1, x.2 * x.2) else if x.2 ≤ 0 then (x.2 * x.2, x.1 * x.1) else (0, max (x.1 * x.1) (x.2 * x.2))
def powB (x : Int × Int) : Nat → Int × Int
  | 0 => (1, 1)
  | 1 => x
  | n + 2 => mulB (powB x n) (sqB x)
def monB : List (Int × Int) → Nat → Option (Int × Int)
  | [], 0 => some (1, 1)
  | [], _ + 1 => none
  | r :: R, m => match monB R (m / 256) with
    | some b => match m % 256 with
      | 0 => some b
      | e + 1 => some (mulB (powB r (e + 1)) b)
    | none => none
def polB (R : List (Int × Int)) : List (Nat × Int) → Option (Int × Int)
  | [] => some (0, 0)
  | (m, c) :: l => match monB R m, polB R l with
    | some a, some b => some (if 0 ≤ c then (c * a.1 + b.1, c * a.2 + b.2) else (c * a.2 + b.1, c * a.1 + b.2))
    | _, _ => none
def InB (b : Int × Int) (x : Rat) : Prop := (b.1 : Rat) ≤ x ∧ x ≤ (b.2 : Rat)
def ROk (X : Nat → Rat) (R : List (Int × Int)) : Prop := ∀ (i : Nat) b, R[i]? = some b → InB b (X i)
theorem leC {a b : Int} (h : a ≤ b) : (a : Rat) ≤ (b : Rat) := Rat.intCast_le_intCast.2 h
theorem mulB_ok {a b : Int × Int} {x y : Rat} (ha : InB a x) (hb : InB b y) : InB (mulB a b) (x * y) := by
  obtain ⟨a1, a2⟩ := a
  obtain ⟨b1, b2⟩ := b
  obtain ⟨h1, h2⟩ := ha
  obtain ⟨h3, h4⟩ := hb
  simp only at h1 h2 h3 h4
  have c1 : ((a1 * b1 : Int) : Rat) = a1 * b1 := Rat.intCast_mul ..
  have c2 : ((a1 * b2 : Int) : Rat) = a1 * b2 := Rat.intCast_mul ..
  have c3 : ((a2 * b1 : Int) : Rat) = a2 * b1 := Rat.intCast_mul ..
  have c4 : ((a2 * b2 : Int) : Rat) = a2 * b2 := Rat.intCast_mul ..
  have l1 : ((mulB (a1, a2) (b1, b2)).1 : Rat) ≤ ((a1 * b1 : Int) : Rat) ∧ ((mulB (a1, a2) (b1, b2)).1 : Rat) ≤ ((a1 * b2 : Int) : Rat) ∧ ((mulB (a1, a2) (b1, b2)).1 : Rat) ≤ ((a2 * b1 : Int) : Rat) ∧ ((mulB (a1, a2) (b1, b2)).1 : Rat) ≤ ((a2 * b2 : Int) : Rat) := by
    refine ⟨leC ?_, leC ?_, leC ?_, leC ?_⟩ <;> (simp only [mulB, min4]; omega)
  have l2 : ((a1 * b1 : Int) : Rat) ≤ ((mulB (a1, a2) (b1, b2)).2 : Rat) ∧ ((a1 * b2 : Int) : Rat) ≤ ((mulB (a1, a2) (b1, b2)).2 : Rat) ∧ ((a2 * b1 : Int) : Rat) ≤ ((mulB (a1, a2) (b1, b2)).2 : Rat) ∧ ((a2 * b2 : Int) : Rat) ≤ ((mulB (a1, a2) (b1, b2)).2 : Rat) := by
    refine ⟨leC ?_, leC ?_, leC ?_, leC ?_⟩ <;> (simp only [mulB, max4]; omega)
  rw [c1, c2, c3, c4] at l1 l2
  show ((mulB (a1, a2) (b1, b2)).1 : Rat) ≤ x * y ∧ x * y ≤ ((mulB (a1, a2) (b1, b2)).2 : Rat)
  generalize ((mulB (a1, a2) (b1, b2)).1 : Rat) = lo at *
  generalize ((mulB (a1, a2) (b1, b2)).2 : Rat) = hi at *
  have key : ∀ z : Rat, (0 ≤ z → (a1 : Rat) * z ≤ x * z ∧ x * z ≤ (a2 : Rat) * z) ∧ (z ≤ 0 → (a2 : Rat) * z ≤ x * z ∧ x * z ≤ (a1 : Rat) * z) := fun z =>
    ⟨fun hz => ⟨Rat.mul_le_mul_of_nonneg_right h1 hz, Rat.mul_le_mul_of_nonneg_right h2 hz⟩, fun hz => by
      have hz' : 0 ≤ -z := by grind
      have e1 := Rat.mul_le_mul_of_nonneg_right h1 hz'
      have e2 := Rat.mul_le_mul_of_nonneg_right h2 hz'
      constructor <;> grind⟩
  have key2 : ∀ z : Rat, (0 ≤ z → z * (b1 : Rat) ≤ z * y ∧ z * y ≤ z * (b2 : Rat)) ∧ (z ≤ 0 → z * (b2 : Rat) ≤ z * y ∧ z * y ≤ z * (b1 : Rat)) := fun z =>
    ⟨fun hz => ⟨Rat.mul_le_mul_of_nonneg_left h3 hz, Rat.mul_le_mul_of_nonneg_left h4 hz⟩, fun hz => by
      have hz' : 0 ≤ -z := by grind
      have e1 := Rat.mul_le_mul_of_nonneg_left h3 hz'
      have e2 := Rat.mul_le_mul_of_nonneg_left h4 hz'
      constructor <;> grind⟩
  rcases Rat.le_total (a := 0) (b := y) with hy | hy
  · obtain ⟨e1, e2⟩ := (key y).1 hy
    constructor
    · rcases Rat.le_total (a := 0) (b := (a1 : Rat)) with h | h
      · have := ((key2 a1).1 h).1; grind
      · have := ((key2 a1).2 h).1; grind
    · rcases Rat.le_total (a := 0) (b := (a2 : Rat)) with h | h
      · have := ((key2 a2).1 h).2; grind
      · have := ((key2 a2).2 h).2; grind
  · obtain ⟨e1, e2⟩ := (key y).2 hy
    constructor
    · rcases Rat.le_total (a := 0) (b := (a2 : Rat)) with h | h
      · have := ((key2 a2).1 h).1; grind
      · have := ((key2 a2).2 h).1; grind
    · rcases Rat.le_total (a := 0) (b := (a1 : Rat)) with h | h
      · have := ((key2 a1).1 h).2; grind
      · have := ((key2 a1).2 h).2; grind
theorem sqB_ok {a : Int × Int} {x : Rat} (ha : InB a x) : InB (sqB a) (x * x) := by
  obtain ⟨a1, a2⟩ := a
  obtain ⟨h1, h2⟩ := ha
  simp only at h1 h2
  have c1 : ((a1 * a1 : Int) : Rat) = a1 * a1 := Rat.intCast_mul ..
  have c4 : ((a2 * a2 : Int) : Rat) = a2 * a2 := Rat.intCast_mul ..
  unfold sqB
  split
  · rename_i h
    have h : (0 : Rat) ≤ a1 := by have := leC h; simpa using this
    have h0 : (0 : Rat) ≤ x := by grind
    have e1 := Rat.mul_le_mul_of_nonneg_right h1 h
    have e2 := Rat.mul_le_mul_of_nonneg_left h1 h0
    have e3 := Rat.mul_le_mul_of_nonneg_right h2 h0
    have e4 := Rat.mul_le_mul_of_nonneg_left h2 (show (0 : Rat) ≤ a2 by grind)
    show ((a1 * a1 : Int) : Rat) ≤ _ ∧ _ ≤ ((a2 * a2 : Int) : Rat)
    rw [c1, c4]
    constructor <;> grind
  · split
    · rename_i h
      have h : (a2 : Rat) ≤ 0 := by have := leC h; simpa using this
      have n1 : (0 : Rat) ≤ -a2 := by grind
      have n0 : (0 : Rat) ≤ -x := by grind
      have n2 : -(a2 : Rat) ≤ -x := by grind
      have n3 : -x ≤ -(a1 : Rat) := by grind
      have e1 := Rat.mul_le_mul_of_nonneg_right n2 n1
      have e2 := Rat.mul_le_mul_of_nonneg_left n2 n0
      have e3 := Rat.mul_le_mul_of_nonneg_right n3 n0
      have e4 := Rat.mul_le_mul_of_nonneg_left n3 (show (0 : Rat) ≤ -a1 by grind)
      show ((a2 * a2 : Int) : Rat) ≤ _ ∧ _ ≤ ((a1 * a1 : Int) : Rat)
      rw [c1, c4]
      constructor <;> grind
    · have hs : (0 : Rat) ≤ x * x := by
        by_cases h0 : x = 0
        · rw [h0]; grind
        · have := sq_pos h0; grind
      have l1 : ((a1 * a1 : Int) : Rat) ≤ ((max (a1 * a1) (a2 * a2) : Int) : Rat) := leC (by omega)
      have l2 : ((a2 * a2 : Int) : Rat) ≤ ((max (a1 * a1) (a2 * a2) : Int) : Rat) := leC (by omega)
      refine ⟨by show ((0 : Int) : Rat) ≤ _; simpa using hs, ?_⟩
      show x * x ≤ ((max (a1 * a1) (a2 * a2) : Int) : Rat)
      rw [c1] at l1
      rw [c4] at l2
      rcases Rat.le_total (a := 0) (b := x) with h0 | h0
      · have e3 := Rat.mul_le_mul_of_nonneg_right h2 h0
        have e4 := Rat.mul_le_mul_of_nonneg_left h2 (show (0 : Rat) ≤ a2 by grind)
        grind
      · have n0 : (0 : Rat) ≤ -x := by grind
        have n3 : -x ≤ -(a1 : Rat) := by grind
        have e3 := Rat.mul_le_mul_of_nonneg_right n3 n0
        have e4 := Rat.mul_le_mul_of_nonneg_left n3 (show (0 : Rat) ≤ -a1 by grind)
        grind
theorem powB_ok {a : Int × Int} {x : Rat} (ha : InB a x) : ∀ e, InB (powB a e) (powR x e)
  | 0 => ⟨by show ((1 : Int) : Rat) ≤ 1; simp, by show (1 : Rat) ≤ ((1 : Int) : Rat); simp⟩
  | 1 => by
    have : powR x 1 = x := by show 1 * x = x; grind
    rw [this]; exact ha
  | n + 2 => by
    have : powR x (n + 2) = powR x n * (x * x) := by show powR x n * x * x = _; grind
    rw [this]
    exact mulB_ok (powB_ok ha n) (sqB_ok ha)
theorem monB_ok {X : Nat → Rat} : ∀ {R : List (Int × Int)} {f i m : Nat} {b : Int × Int}, (∀ (j : Nat) b, R[j]? = some b → InB b (X (i + j))) → R.length ≤ f → monB R m = some b → InB b (evM X f i m)
  | [], f, i, 0, b, _, _, h => by cases h; rw [evM_zero]; exact ⟨by show ((1 : Int) : Rat) ≤ 1; simp, by show (1 : Rat) ≤ ((1 : Int) : Rat); simp⟩
  | [], _, _, _ + 1, _, _, _, h => nomatch h
  | r :: R, 0, i, m, b, _, hf, _ => absurd hf (by simp)
  | r :: R, f + 1, i, m, b, hR, hf, h => by
    unfold monB at h
    have hR' : ∀ (j : Nat) b, R[j]? = some b → InB b (X (i + 1 + j)) := fun j b e => by
      have := hR (j + 1) b (by simpa using e)
      rw [show i + (j + 1) = i + 1 + j by omega] at this
      exact this
    have h0 : InB r (X i) := hR 0 r rfl
    split at h
    · rename_i c hc
      have ih := monB_ok (f := f) hR' (by simp at hf; omega) hc
      unfold evM
      split at h
      · rename_i e
        cases h
        rw [e]
        have : powR (X i) 0 * evM X f (i + 1) (m / 256) = evM X f (i + 1) (m / 256) := by show 1 * _ = _; grind
        rw [this]; exact ih
      · rename_i e he
        cases h
        rw [he]
        exact mulB_ok (powB_ok h0 (e + 1)) ih
    · cases h
theorem polB_ok {X : Nat → Rat} {R : List (Int × Int)} (hR : ROk X R) (hl : R.length ≤ FU) : ∀ {l : List (Nat × Int)} {b : Int × Int}, polB R l = some b → InB b (evL X l)
  | [], b, h => by cases h; exact ⟨by show ((0 : Int) : Rat) ≤ 0; simp, by show (0 : Rat) ≤ ((0 : Int) : Rat); simp⟩
  | (m, c) :: l, b, h => by
    unfold polB at h
    split at h
    · rename_i a d ha hd
      have h1 := monB_ok (f := FU) (i := 0) (fun j b e => by rw [Nat.zero_add]; exact hR j b e) hl ha
      have h2 := polB_ok hR hl hd
      obtain ⟨a1, a2⟩ := a
      obtain ⟨d1, d2⟩ := d
      obtain ⟨h1, h3⟩ := h1
      obtain ⟨h2, h4⟩ := h2
      simp only at h1 h2 h3 h4
      show InB b ((c : Rat) * evM X FU 0 m + evL X l)
      generalize evM X FU 0 m = y at *
      generalize evL X l = z at *
      split at h
      · rename_i hc
        cases h
        have hc : (0 : Rat) ≤ c := by have := leC hc; simpa using this
        have e1 := Rat.mul_le_mul_of_nonneg_left h1 hc
        have e2 := Rat.mul_le_mul_of_nonneg_left h3 hc
        refine ⟨?_, ?_⟩
        · show ((c * a1 + d1 : Int) : Rat) ≤ _
          rw [Rat.intCast_add, Rat.intCast_mul]; grind
        · show _ ≤ ((c * a2 + d2 : Int) : Rat)
          rw [Rat.intCast_add, Rat.intCast_mul]; grind
      · rename_i hc
        cases h
        have hc : (0 : Rat) ≤ -c := by have := leC (show c ≤ 0 by omega); have h0 : ((0 : Int) : Rat) = 0 := rfl; grind
        have e1 := Rat.mul_le_mul_of_nonneg_left h1 hc
        have e2 := Rat.mul_le_mul_of_nonneg_left h3 hc
        refine ⟨?_, ?_⟩
        · show ((c * a2 + d1 : Int) : Rat) ≤ _
          rw [Rat.intCast_add, Rat.intCast_mul]; grind
        · show _ ≤ ((c * a1 + d2 : Int) : Rat)
          rw [Rat.intCast_add, Rat.intCast_mul]; grind
    · cases h
def bZ : Option (Int × Int) → Option Bool
  | some b => if 0 < b.1 then some false else if b.2 < 0 then some false else if b.1 = 0 then if b.2 = 0 then some true else none else none
  | none => none
def bS : Option (Int × Int) → Option Bool
  | some b => if 0 < b.1 then some true else if b.2 ≤ 0 then some false else none
  | none => none
theorem bZ_ok {o : Option (Int × Int)} {x : Rat} (ho : ∀ b, o = some b → InB b x) {v : Bool} (h : bZ o = some v) : v = true ↔ x = 0 := by
  unfold bZ at h
  split at h
  · rename_i b
    obtain ⟨h1, h2⟩ := ho b rfl
    split at h
    · rename_i hb
      cases h
      have : (0 : Rat) < (b.1 : Rat) := Rat.intCast_pos.2 hb
      constructor
      · intro h; cases h
      · intro h; grind
    · split at h
      · rename_i hb
        cases h
        have : (b.2 : Rat) < 0 := Rat.intCast_neg_iff.2 hb
        constructor
        · intro h; cases h
        · intro h; grind
      · split at h
        · rename_i h3
          split at h
          · rename_i h4
            cases h
            rw [h3] at h1
            rw [h4] at h2
            exact ⟨fun _ => Rat.le_antisymm h2 h1, fun _ => rfl⟩
          · cases h
        · cases h
  · cases h
theorem bS_ok {o : Option (Int × Int)} {x : Rat} (ho : ∀ b, o = some b → InB b x) {v : Bool} (h : bS o = some v) : v = true ↔ 0 < x := by
  unfold bS at h
  split at h
  · rename_i b
    obtain ⟨h1, h2⟩ := ho b rfl
    split at h
    · rename_i hb
      cases h
      have : (0 : Rat) < (b.1 : Rat) := Rat.intCast_pos.2 hb
      constructor
      · intro _; grind
      · intro h; rfl
    · split at h
      · rename_i hb
        cases h
        have : (b.2 : Rat) ≤ 0 := by have := leC hb; simpa using this
        constructor
        · intro h; cases h
        · intro h; grind
      · cases h
  · cases h
theorem isFac_ok {l : List (Nat × Int)} : ∀ {F : List Pl} {j i : Nat} {b : Bool}, isFac F l (negL l) j = some (i, b) → ∃ p, j ≤ i ∧ i - j < F.length ∧ F[i - j]? = some p ∧ p.ev X = if b = true then - evL X l else evL X l
  | [], _, _, _, h => nomatch h
  | p :: F, j, i, b, h => by
    unfold isFac at h
    split at h
    · rename_i he
      cases h
      exact ⟨p, by omega, by simp, by simp, by rw [ev_ofL he]; rfl⟩
    · split at h
      · rename_i he
        cases h
        exact ⟨p, by omega, by simp, by simp, by rw [ev_ofL he, negL_ev]; rfl⟩
      · obtain ⟨q, h1, h2, h3, h4⟩ := isFac_ok h
        refine ⟨q, by omega, by simp; omega, ?_, h4⟩
        rw [show i - j = (i - (j + 1)) + 1 by omega]
        simpa using h3
theorem isFac_fac {l : List (Nat × Int)} {F : List Pl} {i : Nat} {b : Bool} (h : isFac F l (negL l) 0 = some (i, b)) : i < F.length ∧ (fac F i).ev X = if b = true then - evL X l else evL X l := by
  obtain ⟨p, _, h2, h3, h4⟩ := isFac_ok (X := X) h
  refine ⟨by omega, ?_⟩
  unfold fac
  rw [List.getD_eq_getElem?_getD]
  simp only [Nat.sub_zero] at h3
  rw [h3]
  exact h4
def sgLet (R : List (Int × Int)) (K : List (Cd × Bool)) (i : Nat) : Nat := match [((256 ^ i : Nat), (1 : Int))], [((256 ^ i : Nat), (-1 : Int))] with
  | l, nl => match (match qS l nl K with | some b => some b | none => bS (polB R l)) with
    | some true => 1
    | _ => match (match qS nl l K with | some b => some b | none => bS (polB R nl)) with
      | some true => 5
      | _ => match (match qZ l nl K with | some b => some b | none => bZ (polB R l)) with
        | some true => 0
        | some false => 2
        | none => 3
def SgIs (x : Rat) : Nat → Prop
  | 0 => x = 0
  | 1 => 0 < x
  | 5 => x < 0
  | 2 => x ≠ 0
  | _ => True
theorem neg1 {i : Nat} : negL [((256 ^ i : Nat), (1 : Int))] = [((256 ^ i : Nat), (-1 : Int))] := rfl
theorem neg2 {i : Nat} : negL [((256 ^ i : Nat), (-1 : Int))] = [((256 ^ i : Nat), (1 : Int))] := rfl
theorem ev1 {i : Nat} (hi : i < FU) : evL X [((256 ^ i : Nat), (1 : Int))] = X i := by
  show ((1 : Int) : Rat) * evM X FU 0 (256 ^ i) + 0 = X i
  rw [evM_var X hi, Nat.zero_add, show ((1 : Int) : Rat) = 1 from rfl]; grind
theorem ev2 {i : Nat} (hi : i < FU) : evL X [((256 ^ i : Nat), (-1 : Int))] = - X i := by
  show ((-1 : Int) : Rat) * evM X FU 0 (256 ^ i) + 0 = - X i
  rw [evM_var X hi, Nat.zero_add, show ((-1 : Int) : Rat) = -1 from rfl]; grind
theorem qbS {R : List (Int × Int)} {K : List (Cd × Bool)} (hR : ROk X R) (hl : R.length ≤ FU) (hK : KOk X n K) {l : List (Nat × Int)} {b : Bool} (h : (match qS l (negL l) K with | some b => some b | none => bS (polB R l)) = some b) : b = true ↔ 0 < evL X l := by
  split at h
  · rename_i c hc; cases h; exact qS_ok hK hc
  · exact bS_ok (fun b e => polB_ok hR hl e) h
theorem qbZ {R : List (Int × Int)} {K : List (Cd × Bool)} (hR : ROk X R) (hl : R.length ≤ FU) (hK : KOk X n K) {l : List (Nat × Int)} {b : Bool} (h : (match qZ l (negL l) K with | some b => some b | none => bZ (polB R l)) = some b) : b = true ↔ evL X l = 0 := by
  split at h
  · rename_i c hc; cases h; exact qZ_ok hK hc
  · exact bZ_ok (fun b e => polB_ok hR hl e) h
theorem sgLet_ok {R : List (Int × Int)} {K : List (Cd × Bool)} (hR : ROk X R) (hl : R.length ≤ FU) (hK : KOk X n K) {i : Nat} (hi : i < FU) : SgIs (X i) (sgLet R K i) := by
  unfold sgLet
  simp only
  rw [← neg1]
  split
  · rename_i h
    have := (qbS hR hl hK h).1 rfl
    rw [ev1 hi] at this; exact this
  · rw [neg1]
    split
    · rename_i h
      rw [← neg2] at h
      have := (qbS hR hl hK h).1 rfl
      rw [ev2 hi] at this
      show X i < 0
      grind
    · split
      · rename_i h
        rw [← neg1] at h
        have := (qbZ hR hl hK h).1 rfl
        rw [ev1 hi] at this; exact this
      · rename_i h
        rw [← neg1] at h
        have := (qbZ hR hl hK h)
        rw [ev1 hi] at this
        show X i ≠ 0
        intro e; exact absurd (this.2 e) (by decide)
      · trivial
def sgMul : Nat → Nat → Nat
  | 0, _ => 0
  | _, 0 => 0
  | 1, b => b
  | a, 1 => a
  | 5, 5 => 1
  | 5, 2 => 2
  | 2, 5 => 2
  | 2, 2 => 2
  | _, _ => 3
def sgPow (a : Nat) : Nat → Nat
  | 0 => 1
  | e + 1 => sgMul (sgPow a e) a
theorem rneg_mul {a b : Rat} (ha : a < 0) (hb : b < 0) : 0 < a * b := by
  have := Rat.mul_pos (show 0 < -a by grind) (show 0 < -b by grind)
  grind
theorem rpos_neg {a b : Rat} (ha : 0 < a) (hb : b < 0) : a * b < 0 := by
  have := Rat.mul_pos ha (show 0 < -b by grind)
  grind
theorem rne_mul {a b : Rat} (ha : a ≠ 0) (hb : b ≠ 0) : a * b ≠ 0 := by
  intro h
  rcases Rat.mul_eq_zero.1 h with h | h
  · exact ha h
  · exact hb h
theorem pos_mul {x y : Rat} (h : 0 < x) : ∀ {b : Nat}, SgIs y b → SgIs (x * y) b
  | 0, hb => by show x * y = 0; rw [show y = 0 from hb]; grind
  | 1, hb => Rat.mul_pos h hb
  | 5, hb => rpos_neg h hb
  | 2, hb => rne_mul (by grind) hb
  | 3, _ => trivial
  | 4, _ => trivial
  | _ + 6, _ => trivial
theorem sgMul_ok {x y : Rat} : ∀ {a b : Nat}, SgIs x a → SgIs y b → SgIs (x * y) (sgMul a b) := by
  intro a b ha hb
  unfold sgMul
  split
  · show x * y = 0; rw [show x = 0 from ha]; grind
  · show x * y = 0; rw [show y = 0 from hb]; grind
  · exact pos_mul ha hb
  · have := pos_mul hb ha
    rw [Rat.mul_comm]; exact this
  · exact rneg_mul ha hb
  · exact rne_mul (show x ≠ 0 by have : x < 0 := ha; grind) hb
  · exact rne_mul ha (show y ≠ 0 by have : y < 0 := hb; grind)
  · exact rne_mul ha hb
  · trivial
theorem sgPow_ok {x : Rat} {a : Nat} (h : SgIs x a) : ∀ e, SgIs (powR x e) (sgPow a e)
  | 0 => show (0 : Rat) < 1 by decide
  | e + 1 => sgMul_ok (sgPow_ok h e) h
def sgMon (R : List (Int × Int)) (K : List (Cd × Bool)) : Nat → Nat → Nat → Nat
  | 0, _, _ => 1
  | f + 1, i, m => match m with
    | 0 => 1
    | m' + 1 => match (m' + 1) % 256 with
      | 0 => sgMon R K f (i + 1) ((m' + 1) / 256)
      | e + 1 => sgMul (sgPow (sgLet R K i) (e + 1)) (sgMon R K f (i + 1) ((m' + 1) / 256))
theorem sgMon_ok {R : List (Int × Int)} {K : List (Cd × Bool)} (hR : ROk X R) (hl : R.length ≤ FU) (hK : KOk X n K) : ∀ (f i m : Nat), i + f ≤ FU → SgIs (evM X f i m) (sgMon R K f i m)
  | 0, _, _, _ => show (0 : Rat) < 1 by decide
  | f + 1, i, m, hf => by
    unfold sgMon
    split
    · rw [evM_zero]; show (0 : Rat) < 1; decide
    · rename_i m'
      have ih := sgMon_ok hR hl hK f (i + 1) ((m' + 1) / 256) (by omega)
      split
      · rename_i h0
        show SgIs (powR (X i) ((m' + 1) % 256) * evM X f (i + 1) ((m' + 1) / 256)) _
        rw [h0]
        have : powR (X i) 0 * evM X f (i + 1) ((m' + 1) / 256) = evM X f (i + 1) ((m' + 1) / 256) := by
          show 1 * _ = _; grind
        rw [this]; exact ih
      · rename_i e he
        show SgIs (powR (X i) ((m' + 1) % 256) * evM X f (i + 1) ((m' + 1) / 256)) _
        rw [he]
        exact sgMul_ok (sgPow_ok (sgLet_ok hR hl hK (by omega)) (e + 1)) ih
def monoZ (R : List (Int × Int)) (K : List (Cd × Bool)) : List (Nat × Int) → Option Bool
  | [(m, c)] => match eqI c 0 with
    | true => none
    | false => match sgMon R K FU 0 m with
      | 0 => some true
      | 1 => some false
      | 5 => some false
      | 2 => some false
      | _ => none
  | _ => none
def sgC : Int → Nat
  | .ofNat 0 => 0
  | .ofNat (_ + 1) => 1
  | .negSucc _ => 5
theorem sgC_ok : ∀ c : Int, SgIs (c : Rat) (sgC c)
  | .ofNat 0 => rfl
  | .ofNat (_ + 1) => posR
  | .negSucc _ => negR
def monoS (R : List (Int × Int)) (K : List (Cd × Bool)) : List (Nat × Int) → Option Bool
  | [(m, c)] => match sgMul (sgC c) (sgMon R K FU 0 m) with
    | 0 => some false
    | 1 => some true
    | 5 => some false
    | _ => none
  | _ => none
theorem monoZ_ok {R : List (Int × Int)} {K : List (Cd × Bool)} (hR : ROk X R) (hl : R.length ≤ FU) (hK : KOk X n K) {l : List (Nat × Int)} {b : Bool} (h : monoZ R K l = some b) : b = true ↔ evL X l = 0 := by
  unfold monoZ at h
  split at h
  · rename_i m c
    split at h
    · cases h
    · rename_i hc0
      have hc : c ≠ 0 := by rintro rfl; cases hc0
      have hcR : (c : Rat) ≠ 0 := fun e => hc (Rat.intCast_inj.1 (by rw [e]; rfl))
      have h1 := sgMon_ok hR hl hK FU 0 m (by omega)
      have e : evL X [(m, c)] = (c : Rat) * evM X FU 0 m := by show _ * _ + 0 = _; grind
      rw [e]
      generalize evM X FU 0 m = y at h1
      split at h
      · rename_i h2; rw [h2] at h1; cases h
        have h1 : y = 0 := h1
        rw [h1]; exact ⟨fun _ => by grind, fun _ => rfl⟩
      · rename_i h2; rw [h2] at h1; cases h
        have h1 : 0 < y := h1
        exact ⟨fun h => (nomatch h), fun h => absurd h (rne_mul hcR (by grind))⟩
      · rename_i h2; rw [h2] at h1; cases h
        have h1 : y < 0 := h1
        exact ⟨fun h => (nomatch h), fun h => absurd h (rne_mul hcR (by grind))⟩
      · rename_i h2; rw [h2] at h1; cases h
        exact ⟨fun h => (nomatch h), fun h => absurd h (rne_mul hcR h1)⟩
      · cases h
  · cases h
theorem monoS_ok {R : List (Int × Int)} {K : List (Cd × Bool)} (hR : ROk X R) (hl : R.length ≤ FU) (hK : KOk X n K) {l : List (Nat × Int)} {b : Bool} (h : monoS R K l = some b) : b = true ↔ 0 < evL X l := by
  unfold monoS at h
  split at h
  · rename_i m c
    have h1 := sgMon_ok hR hl hK FU 0 m (by omega)
    have e : evL X [(m, c)] = (c : Rat) * evM X FU 0 m := by show _ * _ + 0 = _; grind
    rw [e]
    have h0 : SgIs (c : Rat) (sgC c) := sgC_ok c
    have h2 := sgMul_ok h0 h1
    generalize ((c : Rat) * evM X FU 0 m) = y at h2
    split at h
    · rename_i h3; rw [h3] at h2; cases h
      have h2 : y = 0 := h2
      exact ⟨fun h => (nomatch h), fun h => by rw [h2] at h; exact absurd h (by decide)⟩
    · rename_i h3; rw [h3] at h2; cases h
      exact ⟨fun _ => h2, fun _ => rfl⟩
    · rename_i h3; rw [h3] at h2; cases h
      have h2 : y < 0 := h2
      exact ⟨fun h => (nomatch h), fun h => absurd h (by grind)⟩
    · cases h
  · cases h
def qZc (l : List (Nat × Int)) (K : List (Cd × Bool)) : Option Bool := match cZ l with
  | some b => some b
  | none => qZ l (negL l) K
theorem qZc_ok {K : List (Cd × Bool)} (hK : KOk X n K) {l : List (Nat × Int)} {b : Bool} (h : qZc l K = some b) : b = true ↔ evL X l = 0 := by
  unfold qZc at h
  split at h
  · rename_i c hc; cases h; exact cZ_ok hc
  · exact qZ_ok hK h
def qAs (K : List (Cd × Bool)) : List Pl → Option Bool
  | [] => some true
  | p :: l => match qZc p.l K with
    | some false => some false
    | some true => qAs K l
    | none => match qAs K l with
      | some false => some false
      | _ => none
theorem qAs_ok {K : List (Cd × Bool)} (hK : KOk X n K) : ∀ {l : List Pl} {b : Bool}, qAs K l = some b → (b = true ↔ ∀ p ∈ l, p.ev X = 0)
  | [], b, h => by cases h; simp
  | p :: l, b, h => by
    have ih := @qAs_ok K hK l
    unfold qAs at h
    split at h
    · rename_i hq
      cases h
      have hp := qZc_ok hK hq
      exact ⟨fun e => (nomatch e), fun e => hp.2 (e p (List.mem_cons_self ..))⟩
    · rename_i hq
      have hp := (qZc_ok hK hq).1 rfl
      rw [ih h]
      exact ⟨fun e q hq => (List.mem_cons.1 hq).elim (fun e2 => e2 ▸ hp) (e q), fun e q hq => e q (List.mem_cons_of_mem _ hq)⟩
    · split at h
      · rename_i hq
        cases h
        have hp := ih hq
        exact ⟨fun e => (nomatch e), fun e => hp.2 fun q hq => e q (List.mem_cons_of_mem _ hq)⟩
      · cases h
def others (K : List (Cd × Bool)) (l : List (Nat × Int)) : List Pl → Bool
  | [] => true
  | p :: k => (eqL p.l l || (match qZ p.l (negL p.l) K with | some true => true | _ => false)) && others K l k
theorem others_ok {K : List (Cd × Bool)} (hK : KOk X n K) {l : List (Nat × Int)} (hl : evL X l = 0) : ∀ {k : List Pl}, others K l k = true → ∀ p ∈ k, p.ev X = 0
  | [], _, _, hp => nomatch hp
  | q :: k, h, p, hp => by
    unfold others at h
    rw [Bool.and_eq_true, Bool.or_eq_true] at h
    rcases List.mem_cons.1 hp with rfl | hp
    · rcases h.1 with h1 | h1
      · show evL X p.l = 0
        rw [eqL_ok h1]; exact hl
      · split at h1
        · rename_i hq; exact (qZ_ok hK hq).1 rfl
        · cases h1
    · exact others_ok hK hl h.2 p hp
def alZ (K0 : List (Cd × Bool)) (l : List (Nat × Int)) : List (Cd × Bool) → Option Bool
  | [] => none
  | (.al k, false) :: K => match others K0 l k with
    | true => some false
    | false => alZ K0 l K
  | _ :: K => alZ K0 l K
theorem alZ_ok {K0 : List (Cd × Bool)} (hK0 : KOk X n K0) {l : List (Nat × Int)} : ∀ {K : List (Cd × Bool)}, KOk X n K → ∀ {b : Bool}, alZ K0 l K = some b → (b = true ↔ evL X l = 0)
  | [], _, _, h => nomatch h
  | (k, v) :: K, hK, b, h => by
    have hK' : KOk X n K := fun x hx => hK x (List.mem_cons_of_mem _ hx)
    have h0 := (hK (k, v) (List.mem_cons_self ..)).2
    have ih := @alZ_ok K0 hK0 l K hK' b
    unfold alZ at h
    split at h
    · rename_i heq; cases heq
    · rename_i k2 K2 heq
      cases heq
      split at h
      · rename_i ho
        cases h
        exact ⟨fun e => (nomatch e), fun e => h0.2 (others_ok hK0 e ho)⟩
      · exact ih h
    · rename_i heq; cases heq; exact ih h
def evenM : Nat → Nat → Bool
  | 0, _ => true
  | f + 1, m => match m with
    | 0 => true
    | m' + 1 => match (m' + 1) % 256 % 2 with
      | 0 => evenM f ((m' + 1) / 256)
      | _ + 1 => false
theorem sq_nn (x : Rat) : 0 ≤ x * x := by
  by_cases h : x = 0
  · rw [h]; grind
  · have := sq_pos h; grind
theorem powR_nn (x : Rat) : ∀ k : Nat, 0 ≤ powR x (2 * k)
  | 0 => show (0 : Rat) ≤ 1 by decide
  | k + 1 => by
    show 0 ≤ powR x (2 * k) * x * x
    have h := Rat.mul_nonneg (powR_nn x k) (sq_nn x)
    grind
theorem evenM_ok : ∀ (f i m : Nat), evenM f m = true → 0 ≤ evM X f i m
  | 0, _, _, _ => show (0 : Rat) ≤ 1 by decide
  | f + 1, i, m, h => by
    unfold evenM at h
    split at h
    · rw [evM_zero]; decide
    · rename_i m'
      split at h
      · rename_i h0
        have ih := evenM_ok f (i + 1) ((m' + 1) / 256) h
        show 0 ≤ powR (X i) ((m' + 1) % 256) * evM X f (i + 1) ((m' + 1) / 256)
        obtain ⟨k, hk⟩ : ∃ k, (m' + 1) % 256 = 2 * k := ⟨(m' + 1) % 256 / 2, by omega⟩
        rw [hk]
        exact Rat.mul_nonneg (powR_nn _ k) ih
      · cases h
def posSum (R : List (Int × Int)) (K : List (Cd × Bool)) : List (Nat × Int) → Bool → Option Bool
  | [], s => some s
  | (m, c) :: l, s => match c with
    | .ofNat (_ + 1) => match evenM FU m with
      | true => match sgMon R K FU 0 m with
        | 1 => posSum R K l true
        | 2 => posSum R K l true
        | 5 => posSum R K l true
        | _ => posSum R K l s
      | false => match sgMon R K FU 0 m with
        | 1 => posSum R K l true
        | 0 => posSum R K l s
        | _ => none
    | _ => none
theorem posSum_ok {R : List (Int × Int)} {K : List (Cd × Bool)} (hR : ROk X R) (hl : R.length ≤ FU) (hK : KOk X n K) : ∀ {l : List (Nat × Int)} {s r : Bool}, posSum R K l s = some r → ∀ b : Rat, 0 ≤ b → (s = true → 0 < b) → 0 ≤ b + evL X l ∧ (r = true → 0 < b + evL X l)
  | [], s, r, h, b, h0, h1 => by
    cases h
    have e : evL X [] = 0 := rfl
    rw [e]
    exact ⟨by grind, fun hs => by have := h1 hs; grind⟩
  | (m, c) :: l, s, r, h, b, h0, h1 => by
    unfold posSum at h
    split at h
    · rename_i k
      have hc : (0 : Rat) < ((Int.ofNat (k + 1) : Int) : Rat) := posR
      have hm := sgMon_ok hR hl hK FU 0 m (by omega)
      have e : evL X ((m, Int.ofNat (k + 1)) :: l) = ((Int.ofNat (k + 1) : Int) : Rat) * evM X FU 0 m + evL X l := rfl
      rw [e]
      generalize ((Int.ofNat (k + 1) : Int) : Rat) = c at hc
      have assoc : b + (c * evM X FU 0 m + evL X l) = (b + c * evM X FU 0 m) + evL X l := by grind
      rw [assoc]
      have strict : 0 < evM X FU 0 m → 0 < b + c * evM X FU 0 m := fun hp => by have := Rat.mul_pos hc hp; grind
      split at h
      · rename_i he
        have hn := evenM_ok (X := X) FU 0 m he
        have hz : 0 ≤ c * evM X FU 0 m := Rat.mul_nonneg (by grind) hn
        split at h
        · rename_i hs; rw [hs] at hm
          have := strict hm
          exact posSum_ok hR hl hK h _ (by grind) (fun _ => this)
        · rename_i hs; rw [hs] at hm
          have hm : evM X FU 0 m ≠ 0 := hm
          have := strict (by grind)
          exact posSum_ok hR hl hK h _ (by grind) (fun _ => this)
        · rename_i hs; rw [hs] at hm
          have hm : evM X FU 0 m < 0 := hm
          have := strict (by grind)
          exact posSum_ok hR hl hK h _ (by grind) (fun _ => this)
        · exact posSum_ok hR hl hK h _ (by grind) (fun hs => by have := h1 hs; grind)
      · split at h
        · rename_i hs; rw [hs] at hm
          have := strict hm
          exact posSum_ok hR hl hK h _ (by grind) (fun _ => this)
        · rename_i hs; rw [hs] at hm
          have hm : evM X FU 0 m = 0 := hm
          have ez : b + c * evM X FU 0 m = b := by rw [hm]; grind
          rw [ez]
          exact posSum_ok hR hl hK h _ h0 h1
        · cases h
    · cases h
def sumZ (R : List (Int × Int)) (K : List (Cd × Bool)) (l : List (Nat × Int)) : Option Bool := match posSum R K l false with
  | some true => some false
  | _ => match posSum R K (negL l) false with
    | some true => some false
    | _ => none
def sumS (R : List (Int × Int)) (K : List (Cd × Bool)) (l : List (Nat × Int)) : Option Bool := match posSum R K l false with
  | some true => some true
  | _ => match posSum R K (negL l) false with
    | some _ => some false
    | _ => none
theorem sumZ_ok {R : List (Int × Int)} {K : List (Cd × Bool)} (hR : ROk X R) (hl : R.length ≤ FU) (hK : KOk X n K) {l : List (Nat × Int)} {b : Bool} (h : sumZ R K l = some b) : b = true ↔ evL X l = 0 := by
  unfold sumZ at h
  split at h
  · rename_i hp
    cases h
    have := (posSum_ok hR hl hK hp 0 (by grind) (fun h => (nomatch h))).2 rfl
    exact ⟨(fun h => nomatch h), fun h => by grind⟩
  · split at h
    · rename_i hp
      cases h
      have := (posSum_ok hR hl hK hp 0 (by grind) (fun h => (nomatch h))).2 rfl
      rw [negL_ev] at this
      exact ⟨(fun h => nomatch h), fun h => by grind⟩
    · cases h
theorem sumS_ok {R : List (Int × Int)} {K : List (Cd × Bool)} (hR : ROk X R) (hl : R.length ≤ FU) (hK : KOk X n K) {l : List (Nat × Int)} {b : Bool} (h : sumS R K l = some b) : b = true ↔ 0 < evL X l := by
  unfold sumS at h
  split at h
  · rename_i hp
    cases h
    have := (posSum_ok hR hl hK hp 0 (by grind) (fun h => (nomatch h))).2 rfl
    exact ⟨fun _ => by grind, fun _ => rfl⟩
  · split at h
    · rename_i hp
      cases h
      have := (posSum_ok hR hl hK hp 0 (by grind) (fun h => (nomatch h))).1
      rw [negL_ev] at this
      exact ⟨(fun h => nomatch h), fun h => by grind⟩
    · cases h
def qc (K : List (Cd × Bool)) (l nl : List (Nat × Int)) : Option Bool := match cS l with
  | some b => some b
  | none => qS l nl K
def trS (K : List (Cd × Bool)) (l : List (Nat × Int)) : List (Cd × Bool) → Option Bool
  | [] => none
  | (.s p, false) :: k => match addL l (negL p.l) with
    | r => match qc K r (negL r) with
      | some false => some false
      | _ => trS K l k
  | (.s p, true) :: k => match negL (addL l (negL p.l)) with
    | r => match qc K r (negL r) with
      | some false => some true
      | _ => trS K l k
  | _ :: k => trS K l k
theorem qc_ok {K : List (Cd × Bool)} (hK : KOk X n K) {l : List (Nat × Int)} {b : Bool} (h : qc K l (negL l) = some b) : b = true ↔ 0 < evL X l := by
  unfold qc at h
  split at h
  · rename_i c hc; cases h; exact cS_ok hc
  · exact qS_ok hK h
theorem trS_ok {K : List (Cd × Bool)} (hK : KOk X n K) {l : List (Nat × Int)} : ∀ {k : List (Cd × Bool)}, KOk X n k → ∀ {b : Bool}, trS K l k = some b → (b = true ↔ 0 < evL X l)
  | [], _, _, h => nomatch h
  | (c, v) :: k, hk, b, h => by
    have hk' : KOk X n k := fun x hx => hk x (List.mem_cons_of_mem _ hx)
    have h0 := (hk (c, v) (List.mem_cons_self ..)).2
    have ih := trS_ok hK (l := l) hk' (b := b)
    cases c with
    | s p =>
      have h0 : v = true ↔ 0 < evL X p.l := h0
      cases v with
      | false =>
        simp only [trS] at h
        split at h
        · rename_i hq
          cases h
          have h2 := qc_ok hK hq
          rw [addL_ev, negL_ev] at h2
          have h3 : ¬ 0 < evL X p.l := fun e => (nomatch h0.2 e)
          have h4 : ¬ 0 < evL X l + - evL X p.l := fun e => (nomatch h2.2 e)
          exact ⟨fun e => (nomatch e), fun e => absurd e (by grind)⟩
        · exact ih h
      | true =>
        simp only [trS] at h
        split at h
        · rename_i hq
          cases h
          have h2 := qc_ok hK hq
          rw [negL_ev, addL_ev, negL_ev] at h2
          have h3 : 0 < evL X p.l := h0.1 rfl
          have h4 : ¬ 0 < -(evL X l + - evL X p.l) := fun e => (nomatch h2.2 e)
          exact ⟨fun _ => by grind, fun _ => rfl⟩
        · exact ih h
    | z p => exact ih h
    | al l => exact ih h
    | lts l => exact ih h
def query0 (F : List Pl) (R : List (Int × Int)) (K : List (Cd × Bool)) : Cd → Option Bool
  | .z p => match cZ p.l with
    | some b => some b
    | none => match isFac F p.l (negL p.l) 0 with
      | some _ => some false
      | none => match qZ p.l (negL p.l) K with
        | some b => some b
        | none => match bZ (polB R p.l) with
          | some b => some b
          | none => match monoZ R K p.l with
            | some b => some b
            | none => match alZ K p.l K with
              | some b => some b
              | none => sumZ R K p.l
  | .s p => match cS p.l with
    | some b => some b
    | none => match qS p.l (negL p.l) K with
      | some b => some b
      | none => match bS (polB R p.l) with
        | some b => some b
        | none => match monoS R K p.l with
          | some b => some b
          | none => match sumS R K p.l with
            | some b => some b
            | none => trS K p.l K
  | .al l => match qA l K with
    | some b => some b
    | none => qAs K l
  | .lts l => qT l K
theorem query0_ok {F : List Pl} {R : List (Int × Int)} {K : List (Cd × Bool)} (hF : FOk X n F) (hR : ROk X R) (hl : R.length ≤ FU) (hK : KOk X n K) {k : Cd} {b : Bool} (h : query0 F R K k = some b) : b = true ↔ k.holds X := by
  cases k with
  | z p =>
    simp only [query0] at h
    split at h
    · rename_i c hc; cases h; exact cZ_ok hc
    · split at h
      · rename_i x hx
        cases h
        obtain ⟨i, b⟩ := x
        obtain ⟨_, h2⟩ := isFac_fac (X := X) hx
        have := (hF i).2
        show _ ↔ evL X p.l = 0
        grind
      · split at h
        · rename_i c hc; cases h; exact qZ_ok hK hc
        · split at h
          · rename_i c hc; cases h; exact bZ_ok (fun b e => polB_ok hR hl e) hc
          · split at h
            · rename_i c hc; cases h; exact monoZ_ok hR hl hK hc
            · split at h
              · rename_i c hc; cases h; exact alZ_ok hK hK hc
              · exact sumZ_ok hR hl hK h
  | s p =>
    simp only [query0] at h
    split at h
    · rename_i c hc; cases h; exact cS_ok hc
    · split at h
      · rename_i c hc; cases h; exact qS_ok hK hc
      · split at h
        · rename_i c hc; cases h; exact bS_ok (fun b e => polB_ok hR hl e) hc
        · split at h
          · rename_i c hc; cases h; exact monoS_ok hR hl hK hc
          · split at h
            · rename_i c hc; cases h; exact sumS_ok hR hl hK hc
            · exact trS_ok hK hK h
  | al l =>
    simp only [query0] at h
    split at h
    · rename_i c hc; cases h; exact qA_ok hK hc
    · exact qAs_ok hK h
  | lts l => exact qT_ok hK h
def gcdL : List (Nat × Int) → Nat → Nat
  | [], g => g
  | (_, c) :: l, g => match g with
    | 1 => 1
    | g => gcdL l (Nat.gcd c.natAbs g)
def divL (g : Int) : List (Nat × Int) → List (Nat × Int)
  | [] => []
  | (m, c) :: l => (m, c / g) :: divL g l
def timesL (g : Int) : List (Nat × Int) → List (Nat × Int)
  | [] => []
  | (m, c) :: l => (m, c * g) :: timesL g l
theorem timesL_ev (g : Int) : ∀ l, evL X (timesL g l) = (g : Rat) * evL X l
  | [] => by show (0 : Rat) = _ * 0; grind
  | (m, c) :: l => by
    show ((c * g : Int) : Rat) * _ + evL X (timesL g l) = (g : Rat) * ((c : Rat) * _ + evL X l)
    rw [timesL_ev g l, Rat.intCast_mul]; grind
theorem divL_all {R : Nat → Prop} (g : Int) : ∀ {l : List (Nat × Int)}, (∀ t ∈ l, R t.1) → ∀ t ∈ divL g l, R t.1
  | [], _, t, ht => nomatch ht
  | (m, c) :: l, h, t, ht => by
    rcases List.mem_cons.1 ht with rfl | ht
    · exact h (m, c) (List.mem_cons_self ..)
    · exact divL_all g (fun t ht => h t (List.mem_cons_of_mem _ ht)) t ht
def prim (p : Pl) : Pl := match gcdL p.l 0 with
  | 0 => p
  | 1 => p
  | g + 2 => match divL (.ofNat (g + 2)) p.l with
    | k => match eqL (timesL (.ofNat (g + 2)) k) p.l with
      | true => ⟨p.d, k⟩
      | false => p
theorem prim_ok (p : Pl) : ∃ c : Rat, 0 < c ∧ p.ev X = c * (prim p).ev X := by
  unfold prim
  split
  · exact ⟨1, by decide, by grind⟩
  · exact ⟨1, by decide, by grind⟩
  · rename_i g _
    simp only
    split
    · rename_i h
      refine ⟨((Int.ofNat (g + 2) : Int) : Rat), posR, ?_⟩
      show evL X p.l = _ * evL X _
      rw [← timesL_ev, eqL_ok h]
    · exact ⟨1, by decide, by grind⟩
theorem prim_Ok {p : Pl} (h : p.Ok n) : (prim p).Ok n := by
  unfold prim
  split
  · exact h
  · exact h
  · simp only
    split
    · exact divL_all (R := fun m => Dgs n p.d m) _ h
    · exact h
def normC : Cd → Cd
  | .z p => .z (prim p)
  | .s p => .s (prim p)
  | k => k
theorem normC_iff (k : Cd) : (normC k).holds X ↔ k.holds X := by
  cases k with
  | z p =>
    obtain ⟨c, hc, e⟩ := prim_ok (X := X) p
    show (prim p).ev X = 0 ↔ p.ev X = 0
    rw [e]
    constructor
    · intro h; rw [h]; grind
    · intro h
      rcases Rat.mul_eq_zero.1 h with h | h
      · grind
      · exact h
  | s p =>
    obtain ⟨c, hc, e⟩ := prim_ok (X := X) p
    show 0 < (prim p).ev X ↔ 0 < p.ev X
    rw [e]
    constructor
    · intro h; exact Rat.mul_pos hc h
    · intro h
      apply Rat.not_le.1
      intro h2
      have h3 := Rat.mul_le_mul_of_nonneg_left h2 (show 0 ≤ c by grind)
      grind
  | al l => exact Iff.rfl
  | lts l => exact Iff.rfl
theorem normC_Ok {k : Cd} (h : k.Ok n) : (normC k).Ok n := by
  cases k with
  | z p => exact prim_Ok h
  | s p => exact prim_Ok h
  | al l => exact h
  | lts l => exact h
def query (F : List Pl) (R : List (Int × Int)) (K : List (Cd × Bool)) (k : Cd) : Option Bool := query0 F R K (normC k)
theorem query_ok {F : List Pl} {R : List (Int × Int)} {K : List (Cd × Bool)} (hF : FOk X n F) (hR : ROk X R) (hl : R.length ≤ FU) (hK : KOk X n K) {k : Cd} {b : Bool} (h : query F R K k = some b) : b = true ↔ k.holds X :=
  (query0_ok hF hR hl hK h).trans (normC_iff k)
theorem sgn_iff (x : Rat) : sgnQ x = if x < 0 then -1 else if 0 < x then 1 else 0 := by
  unfold sgnQ
  have h2 : 0 < x.num ↔ 0 < x := by
    have := Rat.num_nonneg (q := -x)
    have h3 := Rat.neg_num x
    constructor
    · intro h; exact Rat.not_le.1 fun hx => by
        have : (0 : Rat) ≤ -x := by grind
        have := (Rat.num_nonneg (q := -x)).2 this
        rw [h3] at this; omega
    · intro h; apply Classical.byContradiction; intro hx
      have : 0 ≤ (-x).num := by rw [h3]; omega
      have := (Rat.num_nonneg (q := -x)).1 this
      grind
  have h1 : x.num < 0 ↔ x < 0 := by
    have := Rat.num_nonneg (q := x)
    constructor
    · intro h; exact Rat.not_le.1 fun hx => by have := this.2 hx; omega
    · intro h; apply Classical.byContradiction; intro hx
      have := this.1 (by omega)
      grind
  simp only [h1, h2]
theorem sgn_scale {q p R : Rat} (hR : 0 < R) (h : q * R = p) : sgnQ q = sgnQ p := by
  have pos : ∀ {x : Rat}, 0 < x → 0 < x * R := fun hx => Rat.mul_pos hx hR
  rw [sgn_iff, sgn_iff]
  rcases Rat.le_total (a := 0) (b := q) with h1 | h1
  · by_cases h0 : q = 0
    · subst h0
      have : p = 0 := by grind
      rw [this]
    · have h2 : 0 < q := by grind
      have h3 := pos h2
      rw [h] at h3
      have a1 : ¬ q < 0 := by grind
      have a2 : ¬ p < 0 := by grind
      rw [if_neg a1, if_neg a2, if_pos h2, if_pos h3]
  · by_cases h0 : q = 0
    · subst h0
      have : p = 0 := by grind
      rw [this]
    · have h2 : 0 < -q := by grind
      have h3 := pos h2
      have h4 : p < 0 := by grind
      have h5 : q < 0 := by grind
      rw [if_pos h4, if_pos h5]
def oddF (F : List Pl) (K : List (Cd × Bool)) : List (Nat × Nat) → List (Nat × Nat)
  | [] => []
  | (i, e) :: l => match Nat.beq (e % 2) 0 with
    | true => oddF F K l
    | false => match query [] [] K (.s (fac F i)) with
      | some true => oddF F K l
      | _ => (i, 1) :: oddF F K l
theorem FOk.nil : FOk X n [] := fun i => by
  have := Pl.num_ok (X := X) (n := n) 1
  refine ⟨this.2, ?_⟩
  show (Pl.num 1).ev X ≠ 0
  rw [this.1]; decide
theorem powR_even {x : Rat} (h : x ≠ 0) : ∀ k, 0 < powR x (k + k)
  | 0 => by show (0 : Rat) < 1; decide
  | k + 1 => by
    rw [show k + 1 + (k + 1) = (k + k) + 2 by omega, powR_add]
    refine Rat.mul_pos (powR_even h k) ?_
    show 0 < 1 * x * x
    have := sq_pos h
    grind
theorem powR_pos {x : Rat} (h : 0 < x) : ∀ k, 0 < powR x k
  | 0 => by show (0 : Rat) < 1; decide
  | k + 1 => Rat.mul_pos (powR_pos h k) h
theorem oddF_ok {F : List Pl} {K : List (Cd × Bool)} (hF : FOk X n F) (hK : KOk X n K) : ∀ l, ∃ R, 0 < R ∧ fv X F l = fv X F (oddF F K l) * R
  | [] => ⟨1, by decide, by show (1 : Rat) = 1 * 1; grind⟩
  | (i, e) :: l => by
    obtain ⟨R, h1, h2⟩ := oddF_ok hF hK l
    have hne := (hF i).2
    unfold oddF
    split
    · rename_i he
      have he := Nat.eq_of_beq_eq_true he
      obtain ⟨k, rfl⟩ : ∃ k, e = k + k := ⟨e / 2, by omega⟩
      have := powR_even hne k
      refine ⟨powR ((fac F i).ev X) (k + k) * R, Rat.mul_pos this h1, ?_⟩
      show powR _ (k + k) * fv X F l = _
      rw [h2]; grind
    · rename_i he
      split
      · rename_i hq
        have hp : 0 < (fac F i).ev X := (query_ok FOk.nil (R := []) (fun i b e => nomatch e) (Nat.zero_le _) hK hq).1 rfl
        refine ⟨powR ((fac F i).ev X) e * R, Rat.mul_pos (powR_pos hp e) h1, ?_⟩
        show powR _ e * fv X F l = _
        rw [h2]; grind
      · obtain ⟨k, hk⟩ : ∃ k, e = (k + k) + 1 := ⟨e / 2, by
          have : ¬ e % 2 = 0 := fun h => by rw [h] at he; exact absurd he (by decide)
          omega⟩
        subst hk
        have := powR_even hne k
        refine ⟨powR ((fac F i).ev X) (k + k) * R, Rat.mul_pos this h1, ?_⟩
        show powR _ (k + k + 1) * fv X F l = powR _ 1 * fv X F (oddF F K l) * (_ * R)
        rw [h2, powR_add]; grind
def sgnP (F : List Pl) (K : List (Cd × Bool)) (a : Fm) : Pl := mulF F a.p (oddF F K a.f)
theorem sgnP_ok (hn : n ≤ FU) {F : List Pl} {K : List (Cd × Bool)} (hF : FOk X n F) (hK : KOk X n K) {a : Fm} {q : Rat} (ha : a.Is X n F q) (hd : (sgnP F K a).d < 256) : sgnQ q = sgnQ ((sgnP F K a).ev X) ∧ (sgnP F K a).Ok n := by
  obtain ⟨h1, h2⟩ := mulF_ok (X := X) hn hF ha.ok hd
  refine ⟨?_, h2⟩
  obtain ⟨R, h3, h4⟩ := oddF_ok hF hK a.f
  have hne := fv_ne hF (oddF F K a.f)
  have hc : (0 : Rat) < ((a.c + 1 : Nat) : Rat) := by
    have := natR_ne a.c
    have h0 : (0 : Rat) ≤ ((a.c + 1 : Nat) : Rat) := Rat.natCast_nonneg
    grind
  refine sgn_scale (R := ((a.c + 1 : Nat) : Rat) * R * (fv X F (oddF F K a.f) * fv X F (oddF F K a.f))) (Rat.mul_pos (Rat.mul_pos hc h3) (sq_pos hne)) ?_
  show _ = (mulF F a.p (oddF F K a.f)).ev X
  have e := ha.eq
  unfold den at e
  rw [h1, ← e, h4]
  grind
def lowR (x : Int) (b : Int × Int) : Int × Int := if b.1 < x then (x, b.2) else b
def highR (x : Int) (b : Int × Int) : Int × Int := if x < b.2 then (b.1, x) else b
def onLetter (f : Int × Int → Int × Int) : List (Int × Int) → Nat → List (Int × Int)
  | [], _ => []
  | b :: R, m => match m with
    | 1 => f b :: R
    | m => match m % 256 with
      | 0 => b :: onLetter f R (m / 256)
      | _ => b :: R
def linOf : List (Nat × Int) → Option (Nat × Int × Int)
  | [(m, a)] => some (m, a, 0)
  | [(0, c), (m, a)] => some (m, a, c)
  | [(m, a), (0, c)] => some (m, a, c)
  | _ => none
def refP (R : List (Int × Int)) (l : List (Nat × Int)) (b : Bool) : List (Int × Int) := match linOf l with
  | some (m, .ofNat 1, c) => match b with
    | true => onLetter (lowR (-c)) R m
    | false => onLetter (highR (-c)) R m
  | some (m, .negSucc 0, c) => match b with
    | true => onLetter (highR c) R m
    | false => onLetter (lowR c) R m
  | _ => R
def refZ (R : List (Int × Int)) (l : List (Nat × Int)) : List (Int × Int) := match linOf l with
  | some (m, .ofNat 1, c) => onLetter (fun b => lowR (-c) (highR (-c) b)) R m
  | some (m, .negSucc 0, c) => onLetter (fun b => lowR c (highR c b)) R m
  | _ => R
def refLts : List Pl → List (Int × Int) → List (Int × Int)
  | [], R => R
  | p :: l, R => refLts l (refP R p.l true)
def refAl : List Pl → List (Int × Int) → List (Int × Int)
  | [], R => R
  | p :: l, R => refAl l (refZ R p.l)
def refK (R : List (Int × Int)) : Cd → Bool → List (Int × Int)
  | .s p, b => refP R p.l b
  | .z p, true => refZ R p.l
  | .lts l, true => refLts l R
  | .al l, true => refAl l R
  | _, _ => R
theorem lowR_ok {x : Int} {b : Int × Int} {v : Rat} (h : InB b v) (hx : (x : Rat) ≤ v) : InB (lowR x b) v := by
  unfold lowR; split
  · exact ⟨hx, h.2⟩
  · exact h
theorem highR_ok {x : Int} {b : Int × Int} {v : Rat} (h : InB b v) (hx : v ≤ (x : Rat)) : InB (highR x b) v := by
  unfold highR; split
  · exact ⟨h.1, hx⟩
  · exact h
theorem onLetter_len (f : Int × Int → Int × Int) : ∀ (R : List (Int × Int)) (m : Nat), (onLetter f R m).length = R.length
  | [], _ => rfl
  | b :: R, m => by
    unfold onLetter
    split
    · rfl
    · split
      · simp [onLetter_len f R]
      · rfl
theorem onLetter_get (f : Int × Int → Int × Int) : ∀ (R : List (Int × Int)) (m i : Nat) {b : Int × Int}, (onLetter f R m)[i]? = some b → R[i]? = some b ∨ (m = 256 ^ i ∧ ∃ c, R[i]? = some c ∧ b = f c)
  | [], _, _, _, h => nomatch h
  | c :: R, m, i, b, h => by
    unfold onLetter at h
    split at h
    · cases i with
      | zero => exact .inr ⟨rfl, c, rfl, by simpa using h.symm⟩
      | succ i => exact .inl (by simpa using h)
    · rename_i m' hm
      split at h
      · rename_i h0
        cases i with
        | zero => exact .inl (by simpa using h)
        | succ i =>
          rcases onLetter_get f R (m / 256) i (by simpa using h) with h1 | ⟨h1, c', h2, h3⟩
          · exact .inl (by simpa using h1)
          · refine .inr ⟨?_, c', by simpa using h2, h3⟩
            rw [Nat.pow_succ, ← h1]; omega
      · exact .inl h
theorem linOf_ev {X : Nat → Rat} {l : List (Nat × Int)} {m : Nat} {a c : Int} (h : linOf l = some (m, a, c)) : evL X l = (a : Rat) * evM X FU 0 m + (c : Rat) := by
  unfold linOf at h
  split at h
  · cases h; show _ * _ + 0 = _ * _ + ((0 : Int) : Rat); rfl
  · cases h; show _ * evM X FU 0 0 + (_ * _ + 0) = _; rw [evM_zero]; grind
  · cases h; show _ * _ + (_ * evM X FU 0 0 + 0) = _; rw [evM_zero]; grind
  · cases h
theorem onLetter_ok {X : Nat → Rat} {R : List (Int × Int)} (hR : ROk X R) (hl : R.length ≤ FU) {f : Int × Int → Int × Int} {m : Nat} (hf : ∀ b v, InB b v → v = evM X FU 0 m → InB (f b) v) : ROk X (onLetter f R m) := fun i b e => by
  rcases onLetter_get f R m i e with h | ⟨h1, c, h2, rfl⟩
  · exact hR i b h
  · have hi : i < FU := by have := (List.getElem?_eq_some_iff.1 h2).1; omega
    refine hf c (X i) (hR i c h2) ?_
    rw [h1, evM_var X hi, Nat.zero_add]
theorem refP_ok {X : Nat → Rat} {R : List (Int × Int)} (hR : ROk X R) (hl : R.length ≤ FU) {l : List (Nat × Int)} {b : Bool} (h : b = true ↔ 0 < evL X l) : ROk X (refP R l b) ∧ (refP R l b).length = R.length := by
  unfold refP
  split
  · rename_i m c hm
    have e := linOf_ev (X := X) hm
    have e1 : ((Int.ofNat 1 : Int) : Rat) = 1 := rfl
    rw [e1] at e
    have e2 : ((-c : Int) : Rat) = -(c : Rat) := Rat.intCast_neg ..
    cases b with
    | true =>
      have h := h.1 rfl
      refine ⟨onLetter_ok hR hl fun b v hb hv => lowR_ok hb ?_, onLetter_len ..⟩
      rw [e2, hv]; grind
    | false =>
      have h : ¬ 0 < evL X l := fun h2 => nomatch h.2 h2
      refine ⟨onLetter_ok hR hl fun b v hb hv => highR_ok hb ?_, onLetter_len ..⟩
      rw [e2, hv]; grind
  · rename_i m c hm
    have e := linOf_ev (X := X) hm
    have e1 : ((Int.negSucc 0 : Int) : Rat) = -1 := rfl
    rw [e1] at e
    cases b with
    | true =>
      have h := h.1 rfl
      refine ⟨onLetter_ok hR hl fun b v hb hv => highR_ok hb ?_, onLetter_len ..⟩
      rw [hv]; grind
    | false =>
      have h : ¬ 0 < evL X l := fun h2 => nomatch h.2 h2
      refine ⟨onLetter_ok hR hl fun b v hb hv => lowR_ok hb ?_, onLetter_len ..⟩
      rw [hv]; grind
  · exact ⟨hR, rfl⟩
theorem refZ_ok {X : Nat → Rat} {R : List (Int × Int)} (hR : ROk X R) (hl : R.length ≤ FU) {l : List (Nat × Int)} (h : evL X l = 0) : ROk X (refZ R l) ∧ (refZ R l).length = R.length := by
  unfold refZ
  split
  · rename_i m c hm
    have e := linOf_ev (X := X) hm
    have e1 : ((Int.ofNat 1 : Int) : Rat) = 1 := rfl
    rw [e1] at e
    have e2 : ((-c : Int) : Rat) = -(c : Rat) := Rat.intCast_neg ..
    refine ⟨onLetter_ok hR hl fun b v hb hv => lowR_ok (highR_ok hb ?_) ?_, onLetter_len ..⟩ <;> (rw [e2, hv]; grind)
  · rename_i m c hm
    have e := linOf_ev (X := X) hm
    have e1 : ((Int.negSucc 0 : Int) : Rat) = -1 := rfl
    rw [e1] at e
    refine ⟨onLetter_ok hR hl fun b v hb hv => lowR_ok (highR_ok hb ?_) ?_, onLetter_len ..⟩ <;> (rw [hv]; grind)
  · exact ⟨hR, rfl⟩
theorem refLts_ok {X : Nat → Rat} : ∀ {l : List Pl} {R : List (Int × Int)}, ROk X R → R.length ≤ FU → (∀ p ∈ l, 0 < p.ev X) → ROk X (refLts l R) ∧ (refLts l R).length = R.length
  | [], _, hR, _, _ => ⟨hR, rfl⟩
  | p :: l, R, hR, hl, h => by
    have h1 := refP_ok hR hl (l := p.l) (b := true) ⟨fun _ => h p (List.mem_cons_self ..), fun _ => rfl⟩
    have h2 := refLts_ok (l := l) h1.1 (by rw [h1.2]; exact hl) fun q hq => h q (List.mem_cons_of_mem _ hq)
    exact ⟨h2.1, h2.2.trans h1.2⟩
theorem refAl_ok {X : Nat → Rat} : ∀ {l : List Pl} {R : List (Int × Int)}, ROk X R → R.length ≤ FU → (∀ p ∈ l, p.ev X = 0) → ROk X (refAl l R) ∧ (refAl l R).length = R.length
  | [], _, hR, _, _ => ⟨hR, rfl⟩
  | p :: l, R, hR, hl, h => by
    have h1 := refZ_ok hR hl (l := p.l) (h p (List.mem_cons_self ..))
    have h2 := refAl_ok (l := l) h1.1 (by rw [h1.2]; exact hl) fun q hq => h q (List.mem_cons_of_mem _ hq)
    exact ⟨h2.1, h2.2.trans h1.2⟩
theorem refK_ok {X : Nat → Rat} {R : List (Int × Int)} (hR : ROk X R) (hl : R.length ≤ FU) {k : Cd} {b : Bool} (h : b = true ↔ k.holds X) : ROk X (refK R k b) ∧ (refK R k b).length = R.length := by
  cases k with
  | s p => exact refP_ok hR hl h
  | z p =>
    cases b with
    | true => exact refZ_ok hR hl (h.1 rfl)
    | false => exact ⟨hR, rfl⟩
  | lts l =>
    cases b with
    | true => exact refLts_ok hR hl (h.1 rfl)
    | false => exact ⟨hR, rfl⟩
  | al l =>
    cases b with
    | true => exact refAl_ok hR hl (h.1 rfl)
    | false => exact ⟨hR, rfl⟩
def idxL : Nat → Nat → Nat → Option Nat
  | 0, _, _ => none
  | f + 1, m, i => match Nat.beq m 1 with
    | true => some i
    | false => match Nat.beq (m % 256) 0 with
      | true => idxL f (m / 256) (i + 1)
      | false => none
def isIx (isI : Nat → Bool) (m : Nat) : Bool := match idxL FU m 0 with
  | some i => Nat.beq m (256 ^ i) && (Nat.blt i FU && isI i)
  | none => false
def cutR (r : Int) (b : Int × Int) : Int × Int := match eqI b.1 r with
  | true => (r + 1, b.2)
  | false => match eqI b.2 r with
    | true => (b.1, r - 1)
    | false => b
def refI (isI : Nat → Bool) (R : List (Int × Int)) : Cd → Bool → List (Int × Int)
  | .z p, false => match linOf p.l with
    | some (m, .ofNat 1, c) => match isIx isI m with
      | true => onLetter (cutR (-c)) R m
      | false => R
    | some (m, .negSucc 0, c) => match isIx isI m with
      | true => onLetter (cutR c) R m
      | false => R
    | _ => R
  | .s p, true => match linOf p.l with
    | some (m, .ofNat 1, c) => match isIx isI m with
      | true => onLetter (lowR (-c + 1)) R m
      | false => R
    | some (m, .negSucc 0, c) => match isIx isI m with
      | true => onLetter (highR (c - 1)) R m
      | false => R
    | _ => R
  | _, _ => R
theorem isIx_ok {X : Nat → Rat} {isI : Nat → Bool} (hI : ∀ i, isI i = true → ∃ z : Int, X i = (z : Rat)) {m : Nat} (h : isIx isI m = true) : ∃ z : Int, evM X FU 0 m = (z : Rat) := by
  unfold isIx at h
  split at h
  · rename_i i _
    simp only [Bool.and_eq_true] at h
    obtain ⟨h1, h2, h3⟩ := h
    obtain ⟨z, hz⟩ := hI i h3
    have h2 : i < FU := by simpa using h2
    exact ⟨z, by rw [Nat.eq_of_beq_eq_true h1, evM_var X h2, Nat.zero_add, hz]⟩
  · cases h
theorem cutR_ok {r z : Int} {b : Int × Int} (h : InB b (z : Rat)) (hz : z ≠ r) : InB (cutR r b) (z : Rat) := by
  obtain ⟨h1, h2⟩ := h
  have h1' := Rat.intCast_le_intCast.1 h1
  have h2' := Rat.intCast_le_intCast.1 h2
  unfold cutR
  split
  · rename_i e
    have := eqI_ok e
    exact ⟨Rat.intCast_le_intCast.2 (by omega), h2⟩
  · split
    · rename_i e
      have := eqI_ok e
      exact ⟨h1, Rat.intCast_le_intCast.2 (by omega)⟩
    · exact ⟨h1, h2⟩
theorem refI_ok {X : Nat → Rat} {isI : Nat → Bool} (hI : ∀ i, isI i = true → ∃ z : Int, X i = (z : Rat)) {R : List (Int × Int)} (hR : ROk X R) (hl : R.length ≤ FU) {k : Cd} {b : Bool} (h : b = true ↔ k.holds X) : ROk X (refI isI R k b) ∧ (refI isI R k b).length = R.length := by
  unfold refI
  split
  · rename_i p
    have h : ¬ p.ev X = 0 := fun e => nomatch h.2 e
    split
    · rename_i m c hm
      have e := linOf_ev (X := X) hm
      split
      · rename_i hx
        obtain ⟨z, hz⟩ := isIx_ok hI hx
        refine ⟨onLetter_ok hR hl fun b v hb hv => ?_, onLetter_len ..⟩
        rw [hv, hz] at hb ⊢
        refine cutR_ok hb fun e2 => h ?_
        show evL X p.l = 0
        rw [e, hz, e2, Rat.intCast_neg]
        show (1 : Rat) * _ + _ = 0
        grind
      · exact ⟨hR, rfl⟩
    · rename_i m c hm
      have e := linOf_ev (X := X) hm
      split
      · rename_i hx
        obtain ⟨z, hz⟩ := isIx_ok hI hx
        refine ⟨onLetter_ok hR hl fun b v hb hv => ?_, onLetter_len ..⟩
        rw [hv, hz] at hb ⊢
        refine cutR_ok hb fun e2 => h ?_
        show evL X p.l = 0
        rw [e, hz, e2]
        show (-1 : Rat) * _ + _ = 0
        grind
      · exact ⟨hR, rfl⟩
    · exact ⟨hR, rfl⟩
  · rename_i p
    have h : 0 < p.ev X := h.1 rfl
    split
    · rename_i m c hm
      have e := linOf_ev (X := X) hm
      split
      · rename_i hx
        obtain ⟨z, hz⟩ := isIx_ok hI hx
        refine ⟨onLetter_ok hR hl fun b v hb hv => ?_, onLetter_len ..⟩
        rw [hv, hz] at hb ⊢
        refine lowR_ok hb (Rat.intCast_le_intCast.2 ?_)
        have h : 0 < evL X p.l := h
        rw [e, hz] at h
        have h : (0 : Rat) < (1 : Rat) * (z : Rat) + (c : Rat) := h
        rw [Rat.one_mul, ← Rat.intCast_add] at h
        have := Rat.intCast_lt_intCast.1 (show ((0 : Int) : Rat) < _ from h)
        omega
      · exact ⟨hR, rfl⟩
    · rename_i m c hm
      have e := linOf_ev (X := X) hm
      split
      · rename_i hx
        obtain ⟨z, hz⟩ := isIx_ok hI hx
        refine ⟨onLetter_ok hR hl fun b v hb hv => ?_, onLetter_len ..⟩
        rw [hv, hz] at hb ⊢
        refine highR_ok hb (Rat.intCast_le_intCast.2 ?_)
        have h : 0 < evL X p.l := h
        rw [e, hz] at h
        have h : (0 : Rat) < (-1 : Rat) * (z : Rat) + (c : Rat) := h
        have e3 : (-1 : Rat) * (z : Rat) + (c : Rat) = ((c - z : Int) : Rat) := by rw [Rat.intCast_sub]; grind
        rw [e3] at h
        have := Rat.intCast_lt_intCast.1 (show ((0 : Int) : Rat) < _ from h)
        omega
      · exact ⟨hR, rfl⟩
    · exact ⟨hR, rfl⟩
  · exact ⟨hR, rfl⟩
end
end Go.Proofs.VM
namespace Go.Proofs.VM
open Go.RowKit
def dmx : Nat → Nat → Nat → Nat
  | 0, _, _ => 0
  | f + 1, a, b => match Nat.beq (a + b) 0 with
    | true => 0
    | false => Nat.max (a % 256) (b % 256) + 256 * dmx f (a / 256) (b / 256)
def colM : List (Nat × Int) → Nat
  | [] => 0
  | (m, _) :: l => dmx FU m (colM l)
def sumC : List (Nat × Int) → Nat
  | [] => 0
  | (_, c) :: l => c.natAbs + sumC l
def szM (L : Nat → Option (Nat × Nat)) : Nat → Nat → Nat → Option (Nat × Nat)
  | 0, _, _ => some (0, 0)
  | f + 1, i, M => match Nat.beq M 0 with
    | true => some (0, 0)
    | false => match Nat.beq (M % 256) 0 with
      | true => szM L f (i + 1) (M / 256)
      | false => match L i, szM L f (i + 1) (M / 256) with
        | some (a, b), some (x, y) => some (M % 256 * Nat.max a b + x, M % 256 * b + y)
        | _, _ => none
def Dom : Nat → Nat → Nat → Prop
  | 0, _, _ => True
  | f + 1, m, M => m % 256 ≤ M % 256 ∧ Dom f (m / 256) (M / 256)
theorem Dom.trans : ∀ {f a b c : Nat}, Dom f a b → Dom f b c → Dom f a c
  | 0, _, _, _, _, _ => trivial
  | _ + 1, _, _, _, h, k => ⟨Nat.le_trans h.1 k.1, h.2.trans k.2⟩
theorem Dom.zero : ∀ {f a : Nat}, Dom f 0 a
  | 0, _ => trivial
  | f + 1, a => ⟨by simp, by rw [Nat.zero_div]; exact Dom.zero⟩
def fitsP (L : Nat → Option (Nat × Nat)) (p : Pl) (D k : Nat) : Bool := match szM L FU 0 (colM p.l) with
  | some (x, y) => Nat.blt 0 D && (Nat.blt (sumC p.l * 2 ^ x) (2 ^ k) && Nat.blt (2 ^ y * D) (2 ^ k))
  | none => false
end Go.Proofs.VM
namespace Go.Proofs.VM
open Go.RowKit
noncomputable section
inductive IV where
  | fm (a : Fm)
  | sg (p : Pl)
inductive BV where
  | lit (b : Bool)
  | is (b : Bool) (k : Cd)
inductive AK where
  | gcd | max | min | quo | rem | wrap (k : IntKind)
def AK.ev : AK → Int → Int → Int
  | .gcd, x, y => (x.gcd y : Nat)
  | .max, x, y => if x < y then y else x
  | .min, x, y => if y < x then y else x
  | .quo, x, y => x.tdiv y
  | .rem, x, y => x.tmod y
  | .wrap k, x, _ => k.wrap x
def AK.same : AK → AK → Bool
  | .gcd, .gcd => true
  | .max, .max => true
  | .min, .min => true
  | .quo, .quo => true
  | .rem, .rem => true
  | .wrap k, .wrap l => decide (k = l)
  | _, _ => false
structure SS where
  n : Nat
  I : Sq IV
  B : Sq BV
  Q : Sq Fm
  F : List Pl
  K : List (Cd × Bool)
  R : List (Int × Int)
  A : List (IA × IA × Nat)
  G : List (List Pl × Nat)
  D : List (AK × Pl × Pl × Nat)
inductive RT where
  | yes | no | bad (why : Nat)
  | goal (b : Bool) (k : Cd)
  | ask (k : Cd) (t f : RT)
  | need (b : Bool) (k : Cd) (t : RT)
  | dvd (b a : Pl) (t : RT)
  | atom (n : Nat) (k : AK) (a b : Pl) (t : RT)
  | letter (n : Nat) (t : RT)
  | both (t f : RT)
def updX (X : Nat → Rat) (n : Nat) (v : Rat) : Nat → Rat := fun i => if i = n then v else X i
def Cd.is (X : Nat → Rat) (b : Bool) (k : Cd) : Prop := match b with
  | true => k.holds X
  | false => ¬ k.holds X
def RT.ok : RT → (Nat → Rat) → Prop
  | .yes, _ => True
  | .no, _ => False
  | .bad _, _ => False
  | .goal b k, X => k.is X b
  | .ask k t f, X => (k.holds X → t.ok X) ∧ (¬ k.holds X → f.ok X)
  | .need b k t, X => k.is X b ∧ t.ok X
  | .dvd b a t, X => (∀ x y : Int, (x : Rat) = b.ev X → (y : Rat) = a.ev X → x ∣ y) ∧ t.ok X
  | .letter n t, X => ∀ v : Rat, t.ok (updX X n v)
  | .both t f, X => t.ok X ∧ f.ok X
  | .atom n k a b t, X => ∀ v x y : Int, (x : Rat) = a.ev X → (y : Rat) = b.ev X → v = k.ev x y → t.ok (updX X n (v : Rat))
def IV.Is (X : Nat → Rat) (n : Nat) (F : List Pl) : IV → Int → Prop
  | .fm a, x => a.Is X n F (x : Rat)
  | .sg p, x => p.Ok n ∧ x = sgnQ (p.ev X)
def BV.Is (X : Nat → Rat) (n : Nat) : BV → Bool → Prop
  | .lit b, t => t = b
  | .is b k, t => k.Ok n ∧ (t = b ↔ k.holds X)
def IA.lt (m : M) (a : IA) : Prop := ∀ i, a = .v i → i < m.I.length
def AIn (n : Nat) (m : M) (X : Nat → Rat) (p : IA × IA × Nat) : Prop := p.2.2 < n ∧ X p.2.2 = (QD.of p.1 p.2.1).ev m ∧ p.1.lt m ∧ p.2.1.lt m
def gl : List Int → Nat
  | [] => 0
  | x :: l => Nat.gcd x.natAbs (gl l)
theorem gl_append : ∀ l k : List Int, gl (l ++ k) = Nat.gcd (gl l) (gl k)
  | [], k => (Nat.gcd_zero_left _).symm
  | x :: l, k => by
    show Nat.gcd x.natAbs (gl (l ++ k)) = Nat.gcd (Nat.gcd x.natAbs (gl l)) (gl k)
    rw [gl_append l k, Nat.gcd_assoc]
theorem gl_zero : ∀ {l : List Int}, gl l = 0 → ∀ x ∈ l, x = 0
  | y :: l, h, x, hx => by
    have h1 : Nat.gcd y.natAbs (gl l) = 0 := h
    rcases List.mem_cons.1 hx with rfl | hx
    · have := Nat.eq_zero_of_gcd_eq_zero_left h1; omega
    · exact gl_zero (Nat.eq_zero_of_gcd_eq_zero_right h1) x hx
def Evs (X : Nat → Rat) : List Pl → List Int → Prop := All2 fun p x => ((x : Int) : Rat) = Pl.ev X p
def GIn (n : Nat) (X : Nat → Rat) (g : List Pl × Nat) : Prop := g.2 < n ∧ (∀ p ∈ g.1, p.Ok n) ∧ ∃ xs : List Int, Evs X g.1 xs ∧ X g.2 = (((gl xs : Nat) : Int) : Rat)
def DIn (n : Nat) (X : Nat → Rat) (d : AK × Pl × Pl × Nat) : Prop := d.2.2.2 < n ∧ d.2.1.Ok n ∧ d.2.2.1.Ok n ∧ ∃ x y : Int, (x : Rat) = d.2.1.ev X ∧ (y : Rat) = d.2.2.1.ev X ∧ X d.2.2.2 = ((d.1.ev x y : Int) : Rat)
structure Sim (σ : SS) (m : M) (X : Nat → Rat) : Prop where
  hn : σ.n ≤ FU
  lI : m.I.length = σ.I.n
  lB : m.B.length = σ.B.n
  lQ : m.Q.length = σ.Q.n
  hI : ∀ (i : Nat) v, σ.I.get i = some v → v.Is X σ.n σ.F (m.I.getD i 0)
  hB : ∀ (i : Nat) v, σ.B.get i = some v → v.Is X σ.n (m.b i)
  hQ : ∀ (i : Nat) a, σ.Q.get i = some a → a.Is X σ.n σ.F (m.q i)
  hF : FOk X σ.n σ.F
  hK : KOk X σ.n σ.K
  hR : ROk X σ.R
  hRn : σ.R.length ≤ σ.n
  hA : ∀ p ∈ σ.A, AIn σ.n m X p
  hG : ∀ g ∈ σ.G, GIn σ.n X g
  hD : ∀ d ∈ σ.D, DIn σ.n X d
theorem Sim.hRl {σ : SS} {m : M} {X : Nat → Rat} (H : Sim σ m X) : σ.R.length ≤ FU := Nat.le_trans H.hRn H.hn
def ok256 (a : Fm) : Option Fm := match Nat.blt a.p.d 256 with
  | true => some a
  | false => none
def okP (p : Pl) : Option Pl := match Nat.blt p.d 256 with
  | true => some p
  | false => none
theorem ok256_ok {a b : Fm} (h : ok256 a = some b) : a = b ∧ b.p.d < 256 := by
  unfold ok256 at h
  split at h
  · rename_i e; cases h; exact ⟨rfl, by simpa [Nat.blt_eq] using e⟩
  · cases h
theorem okP_ok {a b : Pl} (h : okP a = some b) : a = b ∧ b.d < 256 := by
  unfold okP at h
  split at h
  · rename_i e; cases h; exact ⟨rfl, by simpa [Nat.blt_eq] using e⟩
  · cases h
def SS.ia (σ : SS) : IA → Option IV
  | .l n => some (.fm (.int n))
  | .v i => σ.I.get i
def SS.fm (σ : SS) (a : IA) : Option Fm := match σ.ia a with
  | some (.fm a) => some a
  | _ => none
def SS.pl (σ : SS) (a : IA) : Option Pl := match σ.fm a with
  | some ⟨p, 0, []⟩ => some p
  | _ => none
section
variable {σ : SS} {m : M} {X : Nat → Rat}
theorem Sim.ia (H : Sim σ m X) {a : IA} {v : IV} (h : σ.ia a = some v) : v.Is X σ.n σ.F (a.ev m) := by
  cases a with
  | l k => cases h; exact Fm.int_ok k
  | v i => exact H.hI i v h
theorem Sim.fm (H : Sim σ m X) {a : IA} {f : Fm} (h : σ.fm a = some f) : f.Is X σ.n σ.F ((a.ev m : Int) : Rat) := by
  unfold SS.fm at h
  split at h
  · rename_i b hb; cases h; exact H.ia hb
  · cases h
theorem Sim.pl (H : Sim σ m X) {a : IA} {p : Pl} (h : σ.pl a = some p) : ((a.ev m : Int) : Rat) = p.ev X ∧ p.Ok σ.n := by
  unfold SS.pl at h
  split at h
  · rename_i q hq
    cases h
    have := H.fm hq
    refine ⟨?_, this.ok⟩
    have e := this.eq
    have e1 : den X σ.F ⟨p, 0, []⟩ = 1 := by
      show ((0 + 1 : Nat) : Rat) * 1 = 1
      rw [show ((0 + 1 : Nat) : Rat) = 1 from rfl]; grind
    rw [e1] at e
    show _ = p.ev X
    rw [← e]; grind
  · cases h
end
def SS.reg (σ : SS) (p : Pl) : Nat × Bool × List Pl := match isFac σ.F p.l (negL p.l) 0 with
  | some (i, b) => (i, b, σ.F)
  | none => (σ.F.length, false, σ.F ++ [p])
def SS.divF (σ : SS) (a b : Fm) : Option (List Pl × Fm) := match σ.reg b.p with
  | (i, neg, F') => match ok256 (a.div F' b i neg) with
    | some r => some (F', r)
    | none => none
theorem fac_snoc {F : List Pl} {p : Pl} {i : Nat} (h : i < F.length) : fac (F ++ [p]) i = fac F i := by
  unfold fac
  rw [List.getD_eq_getElem?_getD, List.getD_eq_getElem?_getD, List.getElem?_append_left h]
theorem fv_snoc {X : Nat → Rat} {F : List Pl} {p : Pl} : ∀ {l : List (Nat × Nat)}, (∀ t ∈ l, t.1 < F.length) → fv X (F ++ [p]) l = fv X F l
  | [], _ => rfl
  | (i, e) :: l, h => by
    unfold fv
    rw [fac_snoc (h (i, e) (List.mem_cons_self ..)), fv_snoc (l := l) fun t ht => h t (List.mem_cons_of_mem _ ht)]
theorem Fm.Is.snoc {X : Nat → Rat} {n : Nat} {F : List Pl} {p : Pl} {a : Fm} {q : Rat} (h : a.Is X n F q) : a.Is X n (F ++ [p]) q :=
  ⟨h.ok, fun t ht => by have := h.lt t ht; rw [List.length_append]; omega, by
    have := h.eq
    unfold den at this ⊢
    rw [fv_snoc h.lt]; exact this⟩
theorem IV.Is.snoc {X : Nat → Rat} {n : Nat} {F : List Pl} {p : Pl} {v : IV} {x : Int} (h : v.Is X n F x) : v.Is X n (F ++ [p]) x := by
  cases v with
  | fm a => exact Fm.Is.snoc h
  | sg q => exact h
theorem FOk.snoc {X : Nat → Rat} {n : Nat} {F : List Pl} {p : Pl} (h : FOk X n F) (hp : p.Ok n) (h0 : p.ev X ≠ 0) : FOk X n (F ++ [p]) := fun i => by
  rcases Nat.lt_trichotomy i F.length with hi | hi | hi
  · rw [fac_snoc hi]; exact h i
  · have : fac (F ++ [p]) i = p := by unfold fac; rw [List.getD_eq_getElem?_getD, hi]; simp
    rw [this]; exact ⟨hp, h0⟩
  · have : fac (F ++ [p]) i = fac F i := by
      unfold fac
      rw [List.getD_eq_getElem?_getD, List.getD_eq_getElem?_getD, List.getElem?_eq_none (by simp; omega), List.getElem?_eq_none (by omega)]
    rw [this]; exact h i
def Grow (F F' : List Pl) : Prop := F' = F ∨ ∃ p, F' = F ++ [p]
theorem Grow.is {X : Nat → Rat} {n : Nat} {F F' : List Pl} (g : Grow F F') {a : Fm} {q : Rat} (h : a.Is X n F q) : a.Is X n F' q := by
  rcases g with rfl | ⟨p, rfl⟩
  · exact h
  · exact h.snoc
theorem Grow.iv {X : Nat → Rat} {n : Nat} {F F' : List Pl} (g : Grow F F') {a : IV} {q : Int} (h : a.Is X n F q) : a.Is X n F' q := by
  rcases g with rfl | ⟨p, rfl⟩
  · exact h
  · exact h.snoc
theorem zero_iff {X : Nat → Rat} {n : Nat} {F : List Pl} (hF : FOk X n F) {a : Fm} {q : Rat} (h : a.Is X n F q) : q = 0 ↔ a.p.ev X = 0 := by
  have h1 := h.eq
  have h2 := den_ne hF a
  grind
theorem divF_ok {σ : SS} {m : M} {X : Nat → Rat} (H : Sim σ m X) {a b r : Fm} {F' : List Pl} {x y : Rat} (ha : a.Is X σ.n σ.F x) (hb : b.Is X σ.n σ.F y) (hy : y ≠ 0) (h : σ.divF a b = some (F', r)) : Grow σ.F F' ∧ FOk X σ.n F' ∧ r.Is X σ.n F' (x / y) := by
  have h0 : b.p.ev X ≠ 0 := fun e => hy ((zero_iff H.hF hb).2 e)
  unfold SS.divF SS.reg at h
  split at h
  rename_i i neg F2 hr
  split at h
  · rename_i r2 h2
    cases h
    obtain ⟨e, hd⟩ := ok256_ok h2
    subst e
    split at hr
    · rename_i j c hc
      cases hr
      obtain ⟨h3, h4⟩ := isFac_fac (X := X) hc
      exact ⟨.inl rfl, H.hF, Fm.div_ok H.hn H.hF ha hb hy h3 h4 hd⟩
    · cases hr
      have hF2 := H.hF.snoc hb.ok h0
      refine ⟨.inr ⟨_, rfl⟩, hF2, Fm.div_ok H.hn hF2 ha.snoc hb.snoc hy (by simp) ?_ hd⟩
      have : fac (σ.F ++ [b.p]) σ.F.length = b.p := by unfold fac; rw [List.getD_eq_getElem?_getD]; simp
      rw [this]; rfl
  · cases h
inductive IR where
  | val (v : IV)
  | atom (k : AK) (a b : Pl)
  | dvd (b a : Pl) (F : List Pl) (v : IV)
  | bad
def val (_ : List Pl) (a : Fm) : IR := match ok256 a with
  | some a => .val (.fm a)
  | none => .bad
def sub2 (F : List Pl) (a b : Fm) : Fm := a.add F b.neg
def SS.quo (σ : SS) (ex : Bool) (a b : Fm) (p q : Pl) : IR := match ex, query σ.F σ.R σ.K (.z q) with
  | true, some false => match σ.divF a b with
    | some (F', r) => .dvd q p F' (.fm r)
    | none => .bad
  | _, _ => .atom .quo p q
def atom2 (k : AK) : Option Pl → Option Pl → IR
  | some p, some q => .atom k p q
  | _, _ => .bad
def sgnR (σ : SS) (a : Fm) : IR := match okP (sgnP σ.F σ.K a) with
  | some p => .val (.sg p)
  | none => .bad
def SS.int (σ : SS) (ex : Bool) : ID → IR
  | .add a b => match σ.fm a, σ.fm b with
    | some a, some b => val σ.F (a.add σ.F b)
    | _, _ => .bad
  | .sub a b => match σ.ia b with
    | some (.sg p) => match a with
      | .l 0 => .val (.sg p.neg)
      | _ => .bad
    | some (.fm b) => match σ.fm a with
      | some a => val σ.F (sub2 σ.F a b)
      | none => .bad
    | none => .bad
  | .mul a b => match σ.fm a, σ.fm b with
    | some a, some b => val σ.F (a.mul b)
    | _, _ => .bad
  | .quo a b => match σ.fm a, σ.fm b, σ.pl a, σ.pl b with
    | some x, some y, some p, some q => σ.quo ex x y p q
    | _, _, _, _ => .bad
  | .rem a b => atom2 .rem (σ.pl a) (σ.pl b)
  | .max a b => atom2 .max (σ.pl a) (σ.pl b)
  | .min a b => atom2 .min (σ.pl a) (σ.pl b)
  | .gcd a b => atom2 .gcd (σ.pl a) (σ.pl b)
  | .wrap k a => match σ.pl a with
    | some p => match polB σ.R p.l with
      | some (lo, hi) => if k.min ≤ lo ∧ hi ≤ k.max then .val (.fm ⟨p, 0, []⟩) else .atom (.wrap k) p p
      | none => .atom (.wrap k) p p
    | none => .bad
  | .sign q => match σ.Q.get q with
    | some a => sgnR σ a
    | none => .bad
  | .cmp p q => match σ.Q.get p, σ.Q.get q with
    | some a, some b => match ok256 (sub2 σ.F a b) with
      | some c => sgnR σ c
      | none => .bad
    | _, _ => .bad
  | _ => .bad
def BV.flip : BV → BV
  | .lit b => .lit !b
  | .is b k => .is (!b) k
def constI (a : Fm) : Option Int := match a.p.l, a.c, a.f with
  | [], _, _ => some 0
  | [(0, c)], 0, [] => some c
  | _, _, _ => none
def sgLt (p : Pl) : Int → BV
  | .negSucc _ => .lit false
  | .ofNat 0 => .is true (.s p.neg)
  | .ofNat 1 => .is false (.s p)
  | .ofNat (_ + 2) => .lit true
def ltSg (p : Pl) : Int → BV
  | .negSucc 0 => .is false (.s p.neg)
  | .negSucc (_ + 1) => .lit true
  | .ofNat 0 => .is true (.s p)
  | .ofNat (_ + 1) => .lit false
def eqSg (p : Pl) : Int → BV
  | .negSucc 0 => .is true (.s p.neg)
  | .negSucc (_ + 1) => .lit false
  | .ofNat 0 => .is true (.z p)
  | .ofNat 1 => .is true (.s p)
  | .ofNat (_ + 2) => .lit false
def SS.lt (σ : SS) (a b : IA) : Option BV := match σ.ia a, σ.ia b with
  | some (.fm x), some (.fm y) => match ok256 (sub2 σ.F y x) with
    | some d => match okP (sgnP σ.F σ.K d) with
      | some p => some (.is true (.s p))
      | none => none
    | none => none
  | some (.sg p), some (.fm y) => match constI y with
    | some c => some (sgLt p c)
    | none => none
  | some (.fm x), some (.sg p) => match constI x with
    | some c => some (ltSg p c)
    | none => none
  | _, _ => none
def SS.eq (σ : SS) (a b : IA) : Option BV := match σ.ia a, σ.ia b with
  | some (.fm x), some (.fm y) => match ok256 (sub2 σ.F x y) with
    | some d => some (.is true (.z d.p))
    | none => none
  | some (.sg p), some (.fm y) => match constI y with
    | some c => some (eqSg p c)
    | none => none
  | some (.fm x), some (.sg p) => match constI x with
    | some c => some (eqSg p c)
    | none => none
  | some (.sg p), some (.sg q) => match eqL p.l q.l with
    | true => some (.lit true)
    | false => none
  | _, _ => none
def SS.diffs (σ : SS) : List (IA × IA) → Option (List Pl)
  | [] => some []
  | (a, b) :: l => match σ.fm a, σ.fm b, σ.diffs l with
    | some x, some y, some k => match ok256 (sub2 σ.F x y) with
      | some d => some (d.p :: k)
      | none => none
    | _, _, _ => none
def SS.gaps (σ : SS) : List (IA × IA) → Option (List Pl)
  | [] => some []
  | (a, b) :: l => match σ.pl a, σ.pl b, σ.gaps l with
    | some p, some q, some k => some (q.add p.neg :: k)
    | _, _, _ => none
def BD.code : BD → Nat
  | .lt _ _ => 20 | .le _ _ => 21 | .eq _ _ => 22 | .ne _ _ => 23 | .eqs _ => 24 | .nes _ => 25 | .lts _ => 26
  | .not _ => 27 | .zero _ => 28 | .same _ _ => 29 | .tiny _ => 30 | .seq _ _ => 31 | .sne _ _ => 32
  | .neg _ => 33 | .qle _ _ => 34 | .pos _ => 35 | .sfit _ _ => 36 | .shrFits _ _ => 37 | .qfit _ => 38 | .qsm _ => 39
def bitsZ (b : Int × Int) : Option Nat := match Nat.ble (Nat.max b.1.natAbs b.2.natAbs) (2 ^ (Nat.log2 (Nat.max b.1.natAbs b.2.natAbs) + 1)) with
  | true => some (Nat.log2 (Nat.max b.1.natAbs b.2.natAbs) + 1)
  | false => none
def SS.szI (σ : SS) (i : Nat) : Option Nat := match σ.I.get i with
  | some (.fm a) => match eqL a.p.l (Pl.var i).l && (Nat.beq a.c 0 && a.f.isEmpty) with
    | true => match σ.R[i]? with
      | some b => bitsZ b
      | none => none
    | false => none
  | _ => none
def findN : List (IA × IA × Nat) → Nat → Option (IA × IA)
  | [], _ => none
  | (a, b, j) :: A, i => match Nat.beq j i with
    | true => some (a, b)
    | false => findN A i
def SS.szL (σ : SS) (i : Nat) : Option (Nat × Nat) := match σ.szI i with
  | some k => some (k, 0)
  | none => match findN σ.A i with
    | some (.v j, .v k) => match σ.szI j, σ.szI k with
      | some a, some b => some (a, b)
      | _, _ => none
    | _ => none
def fcon (F : List Pl) : List (Nat × Nat) → Option Nat
  | [] => some 1
  | (i, e) :: l => match (fac F i).l, fcon F l with
    | [(m, .ofNat k)], some r => match Nat.beq m 0 with
      | true => some (k ^ e * r)
      | false => none
    | _, _ => none
def SS.fitsQ (σ : SS) (q : Nat) : Bool := match σ.Q.get q with
  | some a => match fcon σ.F a.f with
    | some K => fitsP σ.szL a.p ((a.c + 1) * K) QB
    | none => false
  | none => false
def SS.bool (σ : SS) : BD → Option BV
  | .lt a b => σ.lt a b
  | .le a b => (σ.lt b a).map BV.flip
  | .eq a b => σ.eq a b
  | .ne a b => (σ.eq a b).map BV.flip
  | .eqs l => (σ.diffs l).map fun k => .is true (.al k)
  | .nes l => (σ.diffs l).map fun k => .is false (.al k)
  | .lts l => (σ.gaps l).map fun k => .is true (.lts k)
  | .not i => match σ.B.get i with
    | some v => some v.flip
    | none => none
  | .zero q => match σ.Q.get q with
    | some a => some (.is true (.z a.p))
    | none => none
  | .same p q => match σ.Q.get p, σ.Q.get q with
    | some a, some b => match ok256 (sub2 σ.F a b) with
      | some c => some (.is true (.z c.p))
      | none => none
    | _, _ => none
  | .neg q => match σ.Q.get q with
    | some a => match okP (sgnP σ.F σ.K a) with
      | some p => some (sgLt p 0)
      | none => none
    | none => none
  | .qfit q => match σ.fitsQ q with
    | true => some (.lit true)
    | false => none
  | _ => none
def eqA : IA → IA → Bool
  | .l a, .l b => eqI a b
  | .v i, .v j => Nat.beq i j
  | _, _ => false
def findA : List (IA × IA × Nat) → IA → IA → Option Nat
  | [], _, _ => none
  | (x, y, i) :: A, a, b => match eqA x a && eqA y b with
    | true => some i
    | false => findA A a b
inductive QR where
  | new (a b : IA)
  | val (F : List Pl) (v : Fm)
  | need (k : Cd) (F : List Pl) (v : Fm)
  | ask (k : Cd) (v w : Fm)
  | bad
def SS.over (σ : SS) (a b : Fm) : QR := match σ.divF a b with
  | some (F', r) => match query σ.F σ.R σ.K (.z b.p) with
    | some false => .val F' r
    | some true => .bad
    | none => .need (.z b.p) F' r
  | none => .bad
def valQ (F : List Pl) (a : Fm) : QR := match ok256 a with
  | some a => .val F a
  | none => .bad
def sumF (σ : SS) : List Nat → Option Fm
  | [] => some (.int 0)
  | i :: l => match σ.Q.get i, sumF σ l with
    | some a, some b => ok256 (a.add σ.F b)
    | _, _ => none
def SS.rat (σ : SS) : QD → QR
  | .int a => match σ.fm a with
    | some a => .val σ.F a
    | none => .bad
  | .frac a b => match σ.fm a, σ.fm b with
    | some a, some b => σ.over a b
    | _, _ => .bad
  | .add p q => match σ.Q.get p, σ.Q.get q with
    | some a, some b => valQ σ.F (a.add σ.F b)
    | _, _ => .bad
  | .sub p q => match σ.Q.get p, σ.Q.get q with
    | some a, some b => valQ σ.F (sub2 σ.F a b)
    | _, _ => .bad
  | .mul p q => match σ.Q.get p, σ.Q.get q with
    | some a, some b => valQ σ.F (a.mul b)
    | _, _ => .bad
  | .div p q => match σ.Q.get p, σ.Q.get q with
    | some a, some b => σ.over a b
    | _, _ => .bad
  | .neg p => match σ.Q.get p with
    | some a => .val σ.F a.neg
    | none => .bad
  | .inv p => match σ.Q.get p with
    | some a => σ.over (.int 1) a
    | none => .bad
  | .abs p => match σ.Q.get p with
    | some a => match okP (sgnP σ.F σ.K a) with
      | some s => .ask (.s s.neg) a.neg a
      | none => .bad
    | none => .bad
  | .zero => .val σ.F (.int 0)
  | .of a b => match findA σ.A a b with
    | some i => .val σ.F ⟨.var i, 0, []⟩
    | none => match σ.ia a, σ.ia b with
      | some _, some _ => .new a b
      | _, _ => .bad
  | .sum l => match sumF σ l with
    | some a => .val σ.F a
    | none => .bad
  | _ => .bad
def SS.pI (σ : SS) (v : IV) : SS := SS.rec (motive := fun _ => SS) (fun n I B Q F K R A G D => ⟨n, I.push v, B, Q, F, K, R, A, G, D⟩) σ
def SS.pB (σ : SS) (v : BV) : SS := SS.rec (motive := fun _ => SS) (fun n I B Q F K R A G D => ⟨n, I, B.push v, Q, F, K, R, A, G, D⟩) σ
def SS.pQ (σ : SS) (v : Fm) : SS := SS.rec (motive := fun _ => SS) (fun n I B Q F K R A G D => ⟨n, I, B, Q.push v, F, K, R, A, G, D⟩) σ
def isIntL (I : Sq IV) (D : List (AK × Pl × Pl × Nat)) (i : Nat) : Bool := (D.any fun e => Nat.beq e.2.2.2 i) || (Nat.blt i FU && match I.get i with
  | some (.fm a) => eqL a.p.l (Pl.var i).l && (Nat.beq a.c 0 && a.f.isEmpty)
  | _ => false)
def SS.kn (σ : SS) (k : Cd) (b : Bool) : SS := SS.rec (motive := fun _ => SS) (fun n I B Q F K R A G D => ⟨n, I, B, Q, F, (normC k, b) :: K, refI (isIntL I D) (refK R (normC k) b) (normC k) b, A, G, D⟩) σ
def SS.setF (σ : SS) (F1 : List Pl) : SS := SS.rec (motive := fun _ => SS) (fun n I B Q _ K R A G D => ⟨n, I, B, Q, F1, K, R, A, G, D⟩) σ
def akB (R : List (Int × Int)) : AK → Pl → Pl → Option (Int × Int)
  | .max, a, b => match polB R a.l, polB R b.l with
    | some x, some y => some (if x.1 < y.1 then y.1 else x.1, if x.2 < y.2 then y.2 else x.2)
    | _, _ => none
  | .gcd, a, b => match polB R a.l, polB R b.l with
    | some x, some y => some (0, max (max (-x.1) x.2) (max (-y.1) y.2))
    | _, _ => none
  | .rem, a, b => match polB R a.l, polB R b.l with
    | some x, some y => if y.1 = y.2 ∧ 0 < y.1 then (if 0 ≤ x.1 then some (0, y.1 - 1) else some (1 - y.1, y.1 - 1)) else none
    | _, _ => none
  | .quo, a, b => match polB R a.l, polB R b.l with
    | some x, some y => if y.1 = y.2 ∧ 0 < y.1 ∧ 0 ≤ x.1 then some (0, x.2 / y.1) else none
    | _, _ => none
  | .wrap k, _, _ => some (k.min, k.max)
  | _, _, _ => none
def addR (R : List (Int × Int)) (n : Nat) (o : Option (Int × Int)) : List (Int × Int) := match Nat.beq R.length n, o with
  | true, some x => R ++ [x]
  | _, _ => R
def findV : List (List Pl × Nat) → List (Nat × Int) → Option (List Pl)
  | [], _ => none
  | (s, i) :: G, l => match eqL (Pl.var i).l l with
    | true => some s
    | false => findV G l
def findS : List (List Pl × Nat) → List Pl → Option Nat
  | [], _ => none
  | (s, i) :: G, k => match eqLs s k with
    | true => some i
    | false => findS G k
def setOf (G : List (List Pl × Nat)) (p : Pl) : List Pl := match p.l with
  | [] => []
  | t :: l => match findV G (t :: l) with
    | some s => s
    | none => [p]
def findD : List (AK × Pl × Pl × Nat) → AK → Pl → Pl → Option Nat
  | [], _, _, _ => none
  | (k1, a1, b1, i) :: D, k, a, b => match k1.same k && (eqL a1.l a.l && eqL b1.l b.l) with
    | true => some i
    | false => findD D k a b
def addD (D : List (AK × Pl × Pl × Nat)) (n : Nat) : AK → Pl → Pl → List (AK × Pl × Pl × Nat)
  | .gcd, _, _ => D
  | k, a, b => (k, a, b, n) :: D
def isRem : AK → Bool
  | .rem => true
  | _ => false
def baseR : List (AK × Pl × Pl × Nat) → Pl → Pl → Option Pl
  | [], _, _ => none
  | (k1, p, b1, i) :: D, a, b => match isRem k1 && (eqL b1.l b.l && eqL ((Pl.var i).add b).l a.l) with
    | true => some p
    | false => baseR D a b
def cong (p q : Pl) (d : Nat) : Bool := match (p.add q.neg).l with
  | [] => true
  | [(m, c)] => Nat.beq m 0 && Nat.beq (c.natAbs % d) 0
  | _ => false
def findM (D0 : List (AK × Pl × Pl × Nat)) (b : Pl) (d : Nat) (p : Pl) : List (AK × Pl × Pl × Nat) → Option Nat
  | [] => none
  | (k1, a1, b1, i) :: D => match isRem k1 && eqL b1.l b.l with
    | true => match baseR D0 a1 b with
      | some q => match cong p q d with
        | true => some i
        | false => findM D0 b d p D
      | none => findM D0 b d p D
    | false => findM D0 b d p D
def remM (D : List (AK × Pl × Pl × Nat)) (a b : Pl) : Option Nat := match b.l with
  | [(m, .ofNat (d + 1))] => match Nat.beq m 0 with
    | true => match baseR D a b with
      | some p => findM D b (d + 1) p D
      | none => none
    | false => none
  | _ => none
def SS.same (σ : SS) : AK → Pl → Pl → Option Nat
  | .gcd, a, b => findS σ.G (setOf σ.G a ++ setOf σ.G b)
  | .rem, a, b => match findD σ.D .rem a b with
    | some i => some i
    | none => remM σ.D a b
  | k, a, b => findD σ.D k a b
def addG (G : List (List Pl × Nat)) (n : Nat) : AK → Pl → Pl → List (List Pl × Nat)
  | .gcd, a, b => (setOf G a ++ setOf G b, n) :: G
  | _, _, _ => G
def posK (G : List (List Pl × Nat)) (K : List (Cd × Bool)) (n : Nat) : AK → Pl → Pl → List (Cd × Bool)
  | .gcd, a, b => match qA (setOf G a ++ setOf G b) K with
    | some false => (.s (.var n), true) :: K
    | _ => K
  | _, _, _ => K
def anyL (l : List (Nat × Int)) : List Pl → Bool
  | [] => false
  | p :: k => eqL p.l l || anyL l k
def dvdG : List (List Pl × Nat) → Pl → Pl → Bool
  | [], _, _ => false
  | (s, i) :: G, b, a => match eqL (Pl.var i).l b.l && anyL a.l s with
    | true => true
    | false => dvdG G b a
def SS.addN (σ : SS) (k : AK) (a b : Pl) : SS := SS.rec (motive := fun _ => SS) (fun n I B Q F K R A G D => ⟨n + 1, I, B, Q, F, posK G K n k a b, addR R n (akB R k a b), A, addG G n k a b, addD D n k a b⟩) σ
def ofB (σ : SS) (a : IA) : Option (Int × Int) := match σ.pl a with
  | some p => match polB σ.R p.l with
    | some (lo, hi) => some (if lo < 0 then lo else 0, if 0 < hi then hi else 0)
    | none => none
  | none => none
def SS.addA (σ : SS) (a b : IA) : SS := SS.rec (motive := fun _ => SS) (fun n I B Q F K R A G D => ⟨n + 1, I, B, Q, F, K, addR R n (ofB σ a), (a, b, n) :: A, G, D⟩) σ
def simp (ex : Bool) : Tree Lf → SS → RT
  | .leaf .yes, _ => .yes
  | .leaf .no, _ => .no
  | .leaf .bad, _ => .bad 1
  | .leaf (.bit i), σ => match σ.B.get i with
    | some (.lit true) => .yes
    | some (.lit false) => .no
    | some (.is b k) => match query σ.F σ.R σ.K k with
      | some c => match b, c with
        | true, true => .yes
        | false, false => .yes
        | _, _ => .no
      | none => .goal b k
    | none => .bad 2
  | .letI d t, σ => match σ.int ex d with
    | .val v => simp ex t (σ.pI v)
    | .atom k a b => match σ.same k a b with
      | some i => simp ex t (σ.pI (.fm ⟨.var i, 0, []⟩))
      | none => match Nat.blt σ.n FU with
        | true => .atom σ.n k a b (simp ex t ((σ.addN k a b).pI (.fm ⟨.var σ.n, 0, []⟩)))
        | false => .bad 3
    | .dvd b a F v => match dvdG σ.G b a with
      | true => simp ex t ((σ.setF F).pI v)
      | false => .dvd b a (simp ex t ((σ.setF F).pI v))
    | .bad => .bad 4
  | .letB d t, σ => match σ.bool d with
    | some v => simp ex t (σ.pB v)
    | none => .bad d.code
  | .letS _ _, _ => .bad 6
  | .letQ d t, σ => match σ.rat d with
    | .val F v => simp ex t ((σ.setF F).pQ v)
    | .new a b => match Nat.blt σ.n FU with
      | true => .letter σ.n (simp ex t ((σ.addA a b).pQ ⟨.var σ.n, 0, []⟩))
      | false => .bad 13
    | .need k F v => .need false k (simp ex t (((σ.setF F).kn k false).pQ v))
    | .ask k v w => match query σ.F σ.R σ.K k with
      | some true => simp ex t (σ.pQ v)
      | some false => simp ex t (σ.pQ w)
      | none => .ask k (simp ex t ((σ.kn k true).pQ v)) (simp ex t ((σ.kn k false).pQ w))
    | .bad => .bad 7
  | .ifB i t f, σ => match σ.B.get i with
    | some (.lit true) => simp ex t σ
    | some (.lit false) => simp ex f σ
    | some (.is b k) => match query σ.F σ.R σ.K k with
      | some c => match b, c with
        | true, true => simp ex t σ
        | false, false => simp ex t σ
        | _, _ => simp ex f σ
      | none => match b with
        | true => .ask k (simp ex t (σ.kn k true)) (simp ex f (σ.kn k false))
        | false => .ask k (simp ex f (σ.kn k true)) (simp ex t (σ.kn k false))
    | none => .bad 8
  | .need d t, σ => match σ.bool d with
    | some (.lit true) => simp ex t σ
    | some (.lit false) => .bad 9
    | some (.is b k) => match query σ.F σ.R σ.K k with
      | some c => match b, c with
        | true, true => simp ex t σ
        | false, false => simp ex t σ
        | _, _ => .bad 10
      | none => .need b k (simp ex t (σ.kn k b))
    | none => .bad d.code
  | .fail _, _ => .bad 12
  | .both t f, σ => .both (simp ex t σ) (simp ex f σ)
end
end Go.Proofs.VM
namespace Go.Proofs.VM
open Go.RowKit
noncomputable section
variable {σ : SS} {m : M} {X : Nat → Rat} {txt : Rat → List UInt8}
theorem sgn_neg (x : Rat) : sgnQ (-x) = - sgnQ x := by
  rw [sgn_iff, sgn_iff]
  rcases Rat.le_total (a := 0) (b := x) with h1 | h1
  · by_cases h0 : x = 0
    · subst h0; rfl
    · have h2 : 0 < x := by grind
      have a1 : -x < 0 := by grind
      have a2 : ¬ x < 0 := by grind
      rw [if_pos a1, if_neg a2, if_pos h2]
  · by_cases h0 : x = 0
    · subst h0; rfl
    · have h2 : x < 0 := by grind
      have a1 : ¬ -x < 0 := by grind
      have a2 : 0 < -x := by grind
      rw [if_neg a1, if_pos h2, if_pos a2]; rfl
theorem cmp_sgn (x y : Rat) : cmpR x y = sgnQ (x - y) := by
  rw [sgn_iff]
  unfold cmpR
  by_cases h1 : x < y
  · have : x - y < 0 := by grind
    rw [if_pos h1, if_pos this]
  · have h2 : ¬ x - y < 0 := by grind
    rw [if_neg h1, if_neg h2]
    by_cases h3 : y < x
    · have : 0 < x - y := by grind
      rw [if_pos h3, if_pos this]
    · have : ¬ 0 < x - y := by grind
      rw [if_neg h3, if_neg this]
theorem sub2_ok {n : Nat} (hn : n ≤ FU) {F : List Pl} (hF : FOk X n F) {a b : Fm} {q r : Rat} (ha : a.Is X n F q) (hb : b.Is X n F r) (hd : (sub2 F a b).p.d < 256) : (sub2 F a b).Is X n F (q - r) := by
  have := Fm.add_ok hn hF ha (Fm.neg_ok hb) hd
  rw [show q - r = q + -r by grind]
  exact this
def IR.Ok (σ : SS) (X : Nat → Rat) (x : Int) : IR → Prop
  | .val v => v.Is X σ.n σ.F x
  | .atom k a b => a.Ok σ.n ∧ b.Ok σ.n ∧ ∃ u w : Int, (u : Rat) = a.ev X ∧ (w : Rat) = b.ev X ∧ x = k.ev u w
  | .dvd b a F v => (∀ u w : Int, (u : Rat) = b.ev X → (w : Rat) = a.ev X → u ∣ w) → Grow σ.F F ∧ FOk X σ.n F ∧ v.Is X σ.n F x
  | .bad => True
theorem val_ok {F : List Pl} {a : Fm} {x : Int} (h : a.p.d < 256 → a.Is X σ.n σ.F (x : Rat)) : (val F a).Ok σ X x := by
  unfold val
  split
  · rename_i b hb
    obtain ⟨e, hd⟩ := ok256_ok hb
    subst e
    exact h hd
  · trivial
theorem sgnR_ok (H : Sim σ m X) {a : Fm} {q : Rat} (ha : a.Is X σ.n σ.F q) : (sgnR σ a).Ok σ X (sgnQ q) := by
  unfold sgnR
  split
  · rename_i p hp
    obtain ⟨e, hd⟩ := okP_ok hp
    subst e
    obtain ⟨h1, h2⟩ := sgnP_ok H.hn H.hF H.hK ha hd
    exact ⟨h2, h1⟩
  · trivial
theorem atom2_ok (H : Sim σ m X) {k : AK} {a b : IA} : (atom2 k (σ.pl a) (σ.pl b)).Ok σ X (k.ev (a.ev m) (b.ev m)) := by
  unfold atom2
  split
  · rename_i p q hp hq
    exact ⟨(H.pl hp).2, (H.pl hq).2, _, _, (H.pl hp).1, (H.pl hq).1, rfl⟩
  · trivial
theorem wrap_in2 {k : IntKind} {n : Int} (h0 : k.min ≤ n) (h1 : n ≤ k.max) : k.wrap n = n := by
  cases k <;> simp [IntKind.min, IntKind.max, IntKind.wrap, IntKind.bits, IntKind.signed] at h0 h1 ⊢ <;> omega
theorem SS.int_ok (H : Sim σ m X) (ex : Bool) (d : ID) : (σ.int ex d).Ok σ X (d.ev m) := by
  cases d with
  | add a b =>
    simp only [SS.int]
    split
    · rename_i x y hx hy
      refine val_ok fun hd => ?_
      have := Fm.add_ok H.hn H.hF (H.fm hx) (H.fm hy) hd
      rw [← Rat.intCast_add] at this
      exact this
    · trivial
  | sub a b =>
    simp only [SS.int]
    split
    · rename_i p hp
      split
      · obtain ⟨h1, h2⟩ := H.ia hp
        obtain ⟨h3, h4⟩ := Pl.neg_ok (X := X) h1
        refine ⟨h4, ?_⟩
        rw [h3, sgn_neg, ← h2]
        show (0 : Int) - b.ev m = _
        omega
      · trivial
    · rename_i y hy
      split
      · rename_i x hx
        refine val_ok fun hd => ?_
        have := sub2_ok H.hn H.hF (H.fm hx) (H.ia hy) hd
        rw [← Rat.intCast_sub] at this
        exact this
      · trivial
    · trivial
  | mul a b =>
    simp only [SS.int]
    split
    · rename_i x y hx hy
      refine val_ok fun hd => ?_
      have := Fm.mul_ok H.hn (H.fm hx) (H.fm hy) hd
      rw [← Rat.intCast_mul] at this
      exact this
    · trivial
  | quo a b =>
    simp only [SS.int]
    split
    · rename_i x y p q hx hy hp hq
      unfold SS.quo
      split
      · rename_i hz
        split
        · rename_i F' r hr
          intro hdv
          have h0 : b.ev m ≠ 0 := fun e => by
            have := (query_ok H.hF H.hR H.hRl H.hK hz)
            have h2 : (Cd.z q).holds X := by
              show q.ev X = 0
              rw [← (H.pl hq).1, e]; rfl
            exact absurd (this.2 h2) (by decide)
          have h0R : ((b.ev m : Int) : Rat) ≠ 0 := rat_ne h0
          obtain ⟨g, hF2, h3⟩ := divF_ok H (H.fm hx) (H.fm hy) h0R hr
          refine ⟨g, hF2, ?_⟩
          obtain ⟨c, hc⟩ := hdv _ _ (H.pl hq).1 (H.pl hp).1
          show r.Is X σ.n F' ((((a.ev m).tdiv (b.ev m) : Int)) : Rat)
          have e : (a.ev m).tdiv (b.ev m) = c := by rw [hc]; exact Int.mul_tdiv_cancel_left _ h0
          rw [e]
          have e2 : ((a.ev m : Int) : Rat) / ((b.ev m : Int) : Rat) = (c : Rat) := by
            rw [hc, Rat.intCast_mul]; grind
          rw [← e2]; exact h3
        · trivial
      · exact ⟨(H.pl hp).2, (H.pl hq).2, _, _, (H.pl hp).1, (H.pl hq).1, rfl⟩
    · trivial
  | rem a b => exact atom2_ok H
  | max a b => exact atom2_ok H
  | min a b => exact atom2_ok H
  | gcd a b => exact atom2_ok H
  | wrap k a =>
    simp only [SS.int]
    split
    · rename_i p hp
      obtain ⟨h1, h2⟩ := H.pl hp
      split
      · rename_i lo hi hb
        split
        · rename_i hr
          have hin := polB_ok H.hR H.hRl hb
          rw [show evL X p.l = p.ev X from rfl, ← h1] at hin
          have b1 : k.min ≤ a.ev m := Int.le_trans hr.1 (Rat.intCast_le_intCast.1 hin.1)
          have b2 : a.ev m ≤ k.max := Int.le_trans (Rat.intCast_le_intCast.1 hin.2) hr.2
          show (⟨p, 0, []⟩ : Fm).Is X σ.n σ.F ((k.wrap (a.ev m) : Int) : Rat)
          rw [wrap_in2 b1 b2]
          refine ⟨h2, fun t ht => (nomatch ht), ?_⟩
          have e1 : den X σ.F ⟨p, 0, []⟩ = 1 := by
            show ((0 + 1 : Nat) : Rat) * 1 = 1
            rw [show ((0 + 1 : Nat) : Rat) = 1 from rfl]; grind
          rw [e1, h1]; grind
        · exact ⟨h2, h2, _, _, h1, h1, rfl⟩
      · exact ⟨h2, h2, _, _, h1, h1, rfl⟩
    · trivial
  | sign q =>
    simp only [SS.int]
    split
    · rename_i a ha; exact sgnR_ok H (H.hQ q a ha)
    · trivial
  | cmp p q =>
    simp only [SS.int]
    split
    · rename_i a b ha hb
      split
      · rename_i c hc
        obtain ⟨e, hd⟩ := ok256_ok hc
        subst e
        have := sgnR_ok H (sub2_ok H.hn H.hF (H.hQ p a ha) (H.hQ q b hb) hd)
        show IR.Ok σ X (cmpR (m.q p) (m.q q)) _
        rw [cmp_sgn]; exact this
      · trivial
    · trivial
  | nlen p => trivial
  | nbits p => trivial
  | nrem p d => trivial
end
end Go.Proofs.VM
namespace Go.Proofs.VM
open Go.RowKit
noncomputable section
variable {σ : SS} {m : M} {X : Nat → Rat} {txt : Rat → List UInt8}
def QR.Ok (σ : SS) (m : M) (X : Nat → Rat) (x : Rat) : QR → Prop
  | .new a b => a.lt m ∧ b.lt m ∧ x = (QD.of a b).ev m
  | .val F v => Grow σ.F F ∧ FOk X σ.n F ∧ v.Is X σ.n F x
  | .need k F v => k.Ok σ.n ∧ (¬ k.holds X → Grow σ.F F ∧ FOk X σ.n F ∧ v.Is X σ.n F x)
  | .ask k v w => k.Ok σ.n ∧ (k.holds X → v.Is X σ.n σ.F x) ∧ (¬ k.holds X → w.Is X σ.n σ.F x)
  | .bad => True
theorem getD_snoc {α : Type} {l : List α} {x d : α} {i : Nat} (h : i < l.length) : (l ++ [x]).getD i d = l.getD i d := by
  rw [List.getD_eq_getElem?_getD, List.getD_eq_getElem?_getD, List.getElem?_append_left h]
theorem getD_last {α : Type} {l : List α} {x d : α} : (l ++ [x]).getD l.length d = x := by
  rw [List.getD_eq_getElem?_getD]; simp
theorem IA.ev_pushI {a : IA} {x : Int} (h : a.lt m) : a.ev (m.pushI x) = a.ev m := by
  cases a with
  | l n => rfl
  | v i => exact getD_snoc (h i rfl)
theorem AIn.pushI {n : Nat} {p : IA × IA × Nat} {x : Int} (h : AIn n m X p) : AIn n (m.pushI x) X p := by
  obtain ⟨h1, h2, h3, h4⟩ := h
  refine ⟨h1, ?_, fun i e => ?_, fun i e => ?_⟩
  · rw [h2]
    show _ / _ = _ / _
    rw [IA.ev_pushI h3, IA.ev_pushI h4]
  · have := h3 i e
    show i < (m.I ++ [x]).length
    simp; omega
  · have := h4 i e
    show i < (m.I ++ [x]).length
    simp; omega
theorem Sim.pI (H : Sim σ m X) {v : IV} {x : Int} (h : v.Is X σ.n σ.F x) : Sim (σ.pI v) (m.pushI x) X :=
  { H with
    lI := by show (m.I ++ [x]).length = (σ.I.push v).n; simp [Sq.push, H.lI]
    hA := fun p hp => (H.hA p hp).pushI
    hI := fun i u hu => by
      show IV.Is X σ.n σ.F u ((m.I ++ [x]).getD i 0)
      rcases Sq.get_push (q := σ.I) hu with ⟨hi, hu⟩ | ⟨hi, rfl⟩
      · rw [getD_snoc (by rw [H.lI]; exact hi)]; exact H.hI i u hu
      · rw [hi, ← H.lI, getD_last]; exact h }
theorem Sim.pB (H : Sim σ m X) {v : BV} {x : Bool} (h : v.Is X σ.n x) : Sim (σ.pB v) (m.pushB x) X :=
  { H with
    lB := by show (m.B ++ [x]).length = (σ.B.push v).n; simp [Sq.push, H.lB]
    hB := fun i u hu => by
      show BV.Is X σ.n u ((m.B ++ [x]).getD i false)
      rcases Sq.get_push (q := σ.B) hu with ⟨hi, hu⟩ | ⟨hi, rfl⟩
      · rw [getD_snoc (by rw [H.lB]; exact hi)]; exact H.hB i u hu
      · rw [hi, ← H.lB, getD_last]; exact h }
theorem Sim.pQ (H : Sim σ m X) {v : Fm} {x : Rat} (h : v.Is X σ.n σ.F x) : Sim (σ.pQ v) (m.pushQ x) X :=
  { H with
    lQ := by show (m.Q ++ [x]).length = (σ.Q.push v).n; simp [Sq.push, H.lQ]
    hQ := fun i u hu => by
      show Fm.Is X σ.n σ.F u ((m.Q ++ [x]).getD i 0)
      rcases Sq.get_push (q := σ.Q) hu with ⟨hi, hu⟩ | ⟨hi, rfl⟩
      · rw [getD_snoc (by rw [H.lQ]; exact hi)]; exact H.hQ i u hu
      · rw [hi, ← H.lQ, getD_last]; exact h }
theorem b_iff {k : Cd} {b : Bool} (h : k.is X b) : b = true ↔ k.holds X := by
  cases b with
  | true => exact ⟨fun _ => h, fun _ => rfl⟩
  | false => exact ⟨fun e => (nomatch e), fun e => absurd e h⟩
theorem isIntL_ok (H : Sim σ m X) (i : Nat) (h : isIntL σ.I σ.D i = true) : ∃ z : Int, X i = (z : Rat) := by
  unfold isIntL at h
  rw [Bool.or_eq_true] at h
  rcases h with h | h
  · obtain ⟨e, he, h1⟩ := List.any_eq_true.1 h
    obtain ⟨_, _, _, x, y, _, _, h6⟩ := H.hD e he
    rw [Nat.eq_of_beq_eq_true h1] at h6
    exact ⟨_, h6⟩
  · rw [Bool.and_eq_true] at h
    obtain ⟨h1, h⟩ := h
    have hi : i < FU := by simpa using h1
    split at h
    · rename_i a ha
      simp only [Bool.and_eq_true, List.isEmpty_iff] at h
      obtain ⟨e1, e2, e3⟩ := h
      have e2 : a.c = 0 := Nat.eq_of_beq_eq_true e2
      have hv : a.Is X σ.n σ.F ((m.I.getD i 0 : Int) : Rat) := H.hI i _ ha
      have e4 := hv.eq
      unfold den at e4
      rw [e2, e3] at e4
      have e5 : a.p.ev X = X i := by
        have : a.p.ev X = (Pl.var i).ev X := by unfold Pl.ev; rw [eqL_ok e1]
        rw [this]; exact (Pl.var_ok (X := X) (n := i + 1) (i := i) (by omega) (by omega)).1
      refine ⟨m.I.getD i 0, ?_⟩
      rw [← e5, ← e4]
      show ((m.I.getD i 0 : Int) : Rat) * (((0 + 1 : Nat) : Rat) * (1 : Rat)) = _
      rw [show ((0 + 1 : Nat) : Rat) = 1 from rfl, Rat.mul_one, Rat.mul_one]
    · cases h
theorem Sim.kn (H : Sim σ m X) {k : Cd} {b : Bool} (hk : k.Ok σ.n) (h : k.is X b) : Sim (σ.kn k b) m X :=
  have hb : b = true ↔ (normC k).holds X := (b_iff h).trans (normC_iff k).symm
  { H with
    hK := fun x hx => by
      rcases List.mem_cons.1 hx with rfl | hx
      · exact ⟨normC_Ok hk, hb⟩
      · exact H.hK x hx
    hR := (refI_ok (isIntL_ok H) (refK_ok H.hR H.hRl hb).1 (by rw [(refK_ok H.hR H.hRl hb).2]; exact H.hRl) hb).1
    hRn := by
      show (refI (isIntL σ.I σ.D) (refK σ.R (normC k) b) (normC k) b).length ≤ σ.n
      rw [(refI_ok (isIntL_ok H) (refK_ok H.hR H.hRl hb).1 (by rw [(refK_ok H.hR H.hRl hb).2]; exact H.hRl) hb).2, (refK_ok H.hR H.hRl hb).2]; exact H.hRn }
theorem Cd.congr {Y : Nat → Rat} {n : Nat} (h : ∀ j, j < n → X j = Y j) {k : Cd} (hk : k.Ok n) : k.holds X ↔ k.holds Y := by
  cases k with
  | z p => show _ = _ ↔ _ = _; rw [Pl.congr h hk]
  | s p => show _ < _ ↔ _ < _; rw [Pl.congr h hk]
  | al l => exact ⟨fun e p hp => by rw [← Pl.congr h (hk p hp)]; exact e p hp, fun e p hp => by rw [Pl.congr h (hk p hp)]; exact e p hp⟩
  | lts l => exact ⟨fun e p hp => by rw [← Pl.congr h (hk p hp)]; exact e p hp, fun e p hp => by rw [Pl.congr h (hk p hp)]; exact e p hp⟩
theorem Cd.Ok.mono {n n' : Nat} (hn : n ≤ n') {k : Cd} (hk : k.Ok n) : k.Ok n' := by
  cases k with
  | z p => exact Pl.Ok.mono hk hn
  | s p => exact Pl.Ok.mono hk hn
  | al l => exact fun p hp => (hk p hp).mono hn
  | lts l => exact fun p hp => (hk p hp).mono hn
theorem fv_congr {Y : Nat → Rat} {n : Nat} (h : ∀ j, j < n → X j = Y j) {F : List Pl} (hF : FOk X n F) : ∀ l, fv X F l = fv Y F l
  | [] => rfl
  | (i, e) :: l => by
    unfold fv
    rw [Pl.congr h (hF i).1, fv_congr h hF l]
theorem Fm.Is.up {Y : Nat → Rat} {n : Nat} (h : ∀ j, j < n → X j = Y j) {F : List Pl} (hF : FOk X n F) {a : Fm} {q : Rat} (ha : a.Is X n F q) : a.Is Y (n + 1) F q :=
  ⟨ha.ok.mono (by omega), ha.lt, by
    have := ha.eq
    unfold den at this ⊢
    rw [← Pl.congr h ha.ok, ← fv_congr h hF]; exact this⟩
theorem addR_ok {R : List (Int × Int)} {n : Nat} {o : Option (Int × Int)} {v : Rat} (hR : ROk X R) (hn : R.length ≤ n) (ho : ∀ r, o = some r → InB r v) : ROk (updX X n v) (addR R n o) ∧ (addR R n o).length ≤ n + 1 := by
  have old : ROk (updX X n v) R := fun i b e => by
    have := (List.getElem?_eq_some_iff.1 e).1
    have e2 : updX X n v i = X i := by unfold updX; rw [if_neg (by omega)]
    rw [e2]; exact hR i b e
  unfold addR
  split
  · rename_i x hb
    have hb : R.length = n := Nat.eq_of_beq_eq_true hb
    refine ⟨fun i b e => ?_, by simp; omega⟩
    rcases Nat.lt_or_ge i R.length with hi | hi
    · rw [List.getElem?_append_left hi] at e
      exact old i b e
    · rw [List.getElem?_append_right hi] at e
      have : i = n := by
        rcases e2 : i - R.length with _ | j
        · omega
        · rw [e2] at e; simp at e
      subst this
      have : i - R.length = 0 := by omega
      rw [this] at e
      simp at e
      subst e
      unfold updX
      rw [if_pos rfl]
      exact ho _ rfl
  · exact ⟨old, by omega⟩
theorem AIn.up {n : Nat} {p : IA × IA × Nat} (v : Rat) (h : AIn n m X p) : AIn (n + 1) m (updX X n v) p := by
  obtain ⟨h1, h2, h3⟩ := h
  refine ⟨by omega, ?_, h3⟩
  unfold updX
  rw [if_neg (by omega)]
  exact h2
theorem ofB_ok (H : Sim σ m X) {a b : IA} {r : Int × Int} (h : ofB σ a = some r) : InB r ((QD.of a b).ev m) := by
  unfold ofB at h
  split at h
  · rename_i p hp
    split at h
    · rename_i lo hi hb
      cases h
      have h1 := polB_ok H.hR H.hRl hb
      rw [show evL X p.l = p.ev X from rfl, ← (H.pl hp).1] at h1
      show (((if lo < 0 then lo else 0 : Int)) : Rat) ≤ (a.ev m : Rat) / ((pos1 (b.ev m) : Int) : Rat) ∧ (a.ev m : Rat) / ((pos1 (b.ev m) : Int) : Rat) ≤ (((if 0 < hi then hi else 0 : Int)) : Rat)
      have hd : 1 ≤ pos1 (b.ev m) := by unfold pos1; split <;> omega
      generalize pos1 (b.ev m) = d at hd ⊢
      generalize a.ev m = n at h1 ⊢
      obtain ⟨h2, h3⟩ := h1
      rw [Rat.intCast_le_intCast] at h2 h3
      have hd1 : (1 : Rat) ≤ (d : Rat) := by rw [show (1 : Rat) = ((1 : Int) : Rat) from rfl, Rat.intCast_le_intCast]; exact hd
      have hd0 : (0 : Rat) < (d : Rat) := by grind
      have e : (n : Rat) / (d : Rat) * (d : Rat) = (n : Rat) := by grind
      have hlo : (((if lo < 0 then lo else 0 : Int)) : Rat) ≤ 0 ∧ (((if lo < 0 then lo else 0 : Int)) : Rat) ≤ (n : Rat) := by
        rw [show (0 : Rat) = ((0 : Int) : Rat) from rfl, Rat.intCast_le_intCast, Rat.intCast_le_intCast]
        split <;> omega
      have hhi : 0 ≤ (((if 0 < hi then hi else 0 : Int)) : Rat) ∧ (n : Rat) ≤ (((if 0 < hi then hi else 0 : Int)) : Rat) := by
        rw [show (0 : Rat) = ((0 : Int) : Rat) from rfl, Rat.intCast_le_intCast, Rat.intCast_le_intCast]
        split <;> omega
      generalize (((if lo < 0 then lo else 0 : Int)) : Rat) = L at hlo ⊢
      generalize (((if 0 < hi then hi else 0 : Int)) : Rat) = U at hhi ⊢
      generalize (n : Rat) / (d : Rat) = q at e ⊢
      rw [← e] at hlo hhi
      show L ≤ q ∧ q ≤ U
      constructor
      · apply Rat.not_lt.1
        intro hc
        have h5 : q * (d : Rat) < L * (d : Rat) := Rat.mul_lt_mul_of_pos_right hc hd0
        have h6 : L * (d : Rat) ≤ L * 1 := by
          have := Rat.mul_le_mul_of_nonneg_left hd1 (show 0 ≤ -L by grind)
          grind
        grind
      · apply Rat.not_lt.1
        intro hc
        have h5 : U * (d : Rat) < q * (d : Rat) := Rat.mul_lt_mul_of_pos_right hc hd0
        have h6 : U * 1 ≤ U * (d : Rat) := Rat.mul_le_mul_of_nonneg_left hd1 hhi.1
        grind
    · cases h
  · cases h
theorem Evs.congr {Y : Nat → Rat} {n : Nat} (hc : ∀ j, j < n → X j = Y j) : ∀ {l : List Pl} {xs : List Int}, (∀ p ∈ l, p.Ok n) → Evs X l xs → Evs Y l xs
  | [], [], _, _ => trivial
  | p :: l, x :: xs, h, ⟨h1, h2⟩ => ⟨by show ((x : Int) : Rat) = p.ev Y; rw [← Pl.congr hc (h p (List.mem_cons_self ..))]; exact h1, Evs.congr hc (fun q hq => h q (List.mem_cons_of_mem _ hq)) h2⟩
  | [], _ :: _, _, h => h.elim
  | _ :: _, [], _, h => h.elim
theorem GIn.up {Y : Nat → Rat} {n : Nat} {g : List Pl × Nat} (hc : ∀ j, j < n → X j = Y j) (h : GIn n X g) : GIn (n + 1) Y g := by
  obtain ⟨h1, h2, xs, h3, h4⟩ := h
  exact ⟨by omega, fun p hp => (h2 p hp).mono (Nat.le_succ _), xs, Evs.congr hc h2 h3, by rw [← hc _ h1]; exact h4⟩
theorem DIn.up {Y : Nat → Rat} {n : Nat} {d : AK × Pl × Pl × Nat} (hc : ∀ j, j < n → X j = Y j) (h : DIn n X d) : DIn (n + 1) Y d := by
  obtain ⟨h1, h2, h3, x, y, h4, h5, h6⟩ := h
  exact ⟨by omega, h2.mono (Nat.le_succ _), h3.mono (Nat.le_succ _), x, y, by rw [← Pl.congr hc h2]; exact h4, by rw [← Pl.congr hc h3]; exact h5, by rw [← hc _ h1]; exact h6⟩
theorem castI {a b : Int} (h : (a : Rat) = (b : Rat)) : a = b := Rat.intCast_inj.1 h
theorem Evs.func : ∀ {l : List Pl} {xs ys : List Int}, Evs X l xs → Evs X l ys → xs = ys
  | [], [], [], _, _ => rfl
  | p :: l, x :: xs, y :: ys, ⟨h1, h2⟩, ⟨h3, h4⟩ => by rw [castI (h1.trans h3.symm), Evs.func h2 h4]
  | [], _ :: _, _, h, _ => h.elim
  | _ :: _, [], _, h, _ => h.elim
  | [], [], _ :: _, _, h => h.elim
  | _ :: _, _ :: _, [], _, h => h.elim
theorem Evs.append : ∀ {l k : List Pl} {xs ys : List Int}, Evs X l xs → Evs X k ys → Evs X (l ++ k) (xs ++ ys)
  | [], _, [], _, _, h => h
  | _ :: _, _, _ :: _, _, ⟨h1, h2⟩, h => ⟨h1, Evs.append h2 h⟩
  | [], _, _ :: _, _, h, _ => h.elim
  | _ :: _, _, [], _, h, _ => h.elim
theorem Evs.same : ∀ {s k : List Pl} {xs : List Int}, eqLs s k = true → Evs X s xs → Evs X k xs
  | [], [], [], _, _ => trivial
  | p :: s, q :: k, x :: xs, h, ⟨h1, h2⟩ => by
    unfold eqLs at h
    rw [Bool.and_eq_true] at h
    refine ⟨?_, Evs.same h.2 h2⟩
    have h1 : ((x : Int) : Rat) = p.ev X := h1
    show ((x : Int) : Rat) = q.ev X
    rw [h1]
    show evL X p.l = evL X q.l
    rw [eqL_ok h.1]
  | [], [], _ :: _, _, h => h.elim
  | [], _ :: _, _, h, _ => nomatch h
  | _ :: _, [], _, h, _ => nomatch h
  | _ :: _, _ :: _, [], _, h => h.elim
theorem Evs.at : ∀ {l : List Pl} {xs : List Int}, Evs X l xs → ∀ p ∈ l, ∃ x ∈ xs, ((x : Int) : Rat) = p.ev X
  | q :: l, x :: xs, ⟨h1, h2⟩, p, hp => by
    rcases List.mem_cons.1 hp with rfl | hp
    · exact ⟨x, List.mem_cons_self .., h1⟩
    · obtain ⟨y, h3, h4⟩ := Evs.at h2 p hp
      exact ⟨y, List.mem_cons_of_mem _ h3, h4⟩
  | _ :: _, [], h, _, _ => h.elim
theorem findV_ok : ∀ {G : List (List Pl × Nat)} {l : List (Nat × Int)} {s : List Pl}, findV G l = some s → ∃ i, (s, i) ∈ G ∧ eqL (Pl.var i).l l = true
  | (s2, i) :: G, l, s, h => by
    unfold findV at h
    split at h
    · rename_i e; cases h; exact ⟨i, List.mem_cons_self .., e⟩
    · obtain ⟨j, h1, h2⟩ := findV_ok h
      exact ⟨j, List.mem_cons_of_mem _ h1, h2⟩
theorem var_of {n i : Nat} {l : List (Nat × Int)} (hi : i < n) (hn : n ≤ FU) (h : eqL (Pl.var i).l l = true) : evL X l = X i := by
  have := (Pl.var_ok (X := X) hi hn).1
  rw [← eqL_ok h]; exact this
theorem setOf_ok {G : List (List Pl × Nat)} {n : Nat} (hn : n ≤ FU) (hG : ∀ g ∈ G, GIn n X g) {p : Pl} {x : Int} (hp : p.Ok n) (hx : (x : Rat) = p.ev X) : (∀ q ∈ setOf G p, q.Ok n) ∧ ∃ xs, Evs X (setOf G p) xs ∧ gl xs = x.natAbs := by
  unfold setOf
  split
  · rename_i e
    have h0 : p.ev X = 0 := by show evL X p.l = 0; rw [e]; rfl
    rw [h0] at hx
    have : x = 0 := castI (hx.trans (by rfl))
    subst this
    exact ⟨fun _ h => (nomatch h), [], trivial, rfl⟩
  · rename_i t l e
    split
    · rename_i s hs
      obtain ⟨i, h1, h2⟩ := findV_ok hs
      obtain ⟨g1, g2, xs, g3, g4⟩ := hG _ h1
      refine ⟨g2, xs, g3, ?_⟩
      have h3 : p.ev X = X i := by show evL X p.l = X i; rw [e]; exact var_of g1 hn h2
      rw [h3] at hx
      have := castI (hx.trans g4)
      rw [this]; rfl
    · exact ⟨fun q hq => by rw [List.mem_singleton.1 hq]; exact hp, [x], ⟨hx, trivial⟩, Nat.gcd_zero_right _⟩
theorem both_ok {G : List (List Pl × Nat)} {n : Nat} (hn : n ≤ FU) (hG : ∀ g ∈ G, GIn n X g) {a b : Pl} {x y : Int} (ha : a.Ok n) (hb : b.Ok n) (hx : (x : Rat) = a.ev X) (hy : (y : Rat) = b.ev X) :
    (∀ q ∈ setOf G a ++ setOf G b, q.Ok n) ∧ ∃ xs, Evs X (setOf G a ++ setOf G b) xs ∧ ((gl xs : Nat) : Int) = AK.gcd.ev x y := by
  obtain ⟨h1, xs, h2, h3⟩ := setOf_ok hn hG ha hx
  obtain ⟨h4, ys, h5, h6⟩ := setOf_ok hn hG hb hy
  refine ⟨fun q hq => (List.mem_append.1 hq).elim (h1 q) (h4 q), xs ++ ys, h2.append h5, ?_⟩
  rw [gl_append, h3, h6]; rfl
theorem addD_ok (H : Sim σ m X) {k : AK} {a b : Pl} {x y : Int} (ha : a.Ok σ.n) (hb : b.Ok σ.n) (hx : (x : Rat) = a.ev X) (hy : (y : Rat) = b.ev X) : ∀ d ∈ addD σ.D σ.n k a b, DIn (σ.n + 1) (updX X σ.n ((k.ev x y : Int) : Rat)) d := by
  have hc : ∀ j, j < σ.n → X j = updX X σ.n ((k.ev x y : Int) : Rat) j := fun j hj => by unfold updX; rw [if_neg (by omega)]
  have old : ∀ d ∈ σ.D, DIn (σ.n + 1) (updX X σ.n ((k.ev x y : Int) : Rat)) d := fun d hd => (H.hD d hd).up hc
  have new : DIn (σ.n + 1) (updX X σ.n ((k.ev x y : Int) : Rat)) (k, a, b, σ.n) :=
    ⟨Nat.lt_succ_self _, ha.mono (Nat.le_succ _), hb.mono (Nat.le_succ _), x, y, by rw [← Pl.congr hc ha]; exact hx, by rw [← Pl.congr hc hb]; exact hy, by unfold updX; exact if_pos rfl⟩
  intro d hd
  cases k with
  | gcd => exact old d hd
  | _ =>
    rcases List.mem_cons.1 hd with rfl | hd
    · exact new
    · exact old d hd
theorem addG_ok (H : Sim σ m X) {k : AK} {a b : Pl} {x y : Int} (ha : a.Ok σ.n) (hb : b.Ok σ.n) (hx : (x : Rat) = a.ev X) (hy : (y : Rat) = b.ev X) : ∀ g ∈ addG σ.G σ.n k a b, GIn (σ.n + 1) (updX X σ.n ((k.ev x y : Int) : Rat)) g := by
  have hc : ∀ j, j < σ.n → X j = updX X σ.n ((k.ev x y : Int) : Rat) j := fun j hj => by unfold updX; rw [if_neg (by omega)]
  have old : ∀ g ∈ σ.G, GIn (σ.n + 1) (updX X σ.n ((k.ev x y : Int) : Rat)) g := fun g hg => (H.hG g hg).up hc
  cases k with
  | gcd =>
    intro g hg
    rcases List.mem_cons.1 hg with rfl | hg
    · obtain ⟨h1, xs, h2, h3⟩ := both_ok H.hn H.hG ha hb hx hy
      refine ⟨Nat.lt_succ_self _, fun p hp => (h1 p hp).mono (Nat.le_succ _), xs, Evs.congr hc h1 h2, ?_⟩
      rw [h3]; unfold updX; exact if_pos rfl
    · exact old g hg
  | _ => exact old
theorem posK_ok (H : Sim σ m X) (hn : σ.n < FU) {k : AK} {a b : Pl} {x y : Int} (ha : a.Ok σ.n) (hb : b.Ok σ.n) (hx : (x : Rat) = a.ev X) (hy : (y : Rat) = b.ev X) : KOk (updX X σ.n ((k.ev x y : Int) : Rat)) (σ.n + 1) (posK σ.G σ.K σ.n k a b) := by
  have hc : ∀ j, j < σ.n → X j = updX X σ.n ((k.ev x y : Int) : Rat) j := fun j hj => by unfold updX; rw [if_neg (by omega)]
  have old : KOk (updX X σ.n ((k.ev x y : Int) : Rat)) (σ.n + 1) σ.K := fun x hx => ⟨(H.hK x hx).1.mono (Nat.le_succ _), (H.hK x hx).2.trans (Cd.congr hc (H.hK x hx).1)⟩
  cases k with
  | gcd =>
    unfold posK
    simp only
    split
    · rename_i hq
      have h0 := qA_ok H.hK hq
      obtain ⟨h1, xs, h2, h3⟩ := both_ok H.hn H.hG ha hb hx hy
      have v := Pl.var_ok (X := updX X σ.n ((AK.gcd.ev x y : Int) : Rat)) (Nat.lt_succ_self σ.n) hn
      intro z hz
      rcases List.mem_cons.1 hz with rfl | hz
      · refine ⟨v.2, ⟨fun _ => ?_, fun _ => rfl⟩⟩
        show 0 < (Pl.var σ.n).ev _
        rw [v.1]
        show 0 < updX X σ.n ((AK.gcd.ev x y : Int) : Rat) σ.n
        rw [show updX X σ.n ((AK.gcd.ev x y : Int) : Rat) σ.n = ((AK.gcd.ev x y : Int) : Rat) from if_pos rfl, ← h3]
        refine Rat.intCast_pos.2 ?_
        rcases Nat.eq_zero_or_pos (gl xs) with e | e
        · refine absurd (h0.2 fun p hp => ?_) (by decide)
          obtain ⟨u, hu, he⟩ := h2.at p hp
          rw [← he, gl_zero e u hu]; rfl
        · omega
      · exact old z hz
    · exact old
  | _ => exact old
theorem Sim.addA (H : Sim σ m X) {a b : IA} (ha : a.lt m) (hb : b.lt m) (hn : σ.n < FU) : Sim (σ.addA a b) m (updX X σ.n ((QD.of a b).ev m)) := by
  have H2 := addR_ok (o := ofB σ a) H.hR H.hRn (fun r hr => ofB_ok (b := b) H hr)
  have hc : ∀ j, j < σ.n → X j = updX X σ.n ((QD.of a b).ev m) j := fun j hj => by unfold updX; rw [if_neg (by omega)]
  exact {
    hn := hn
    lI := H.lI
    lB := H.lB
    lQ := H.lQ
    hI := fun i u hu => by
      have := H.hI i u hu
      cases u with
      | fm a => exact Fm.Is.up hc H.hF this
      | sg p => exact ⟨this.1.mono (Nat.le_succ _), by rw [← Pl.congr hc this.1]; exact this.2⟩
    hB := fun i u hu => by
      have := H.hB i u hu
      cases u with
      | lit b => exact this
      | is b k => exact ⟨this.1.mono (Nat.le_succ _), this.2.trans (Cd.congr hc this.1)⟩
    hQ := fun i u hu => Fm.Is.up hc H.hF (H.hQ i u hu)
    hF := fun i => ⟨(H.hF i).1.mono (Nat.le_succ _), by
      show Pl.ev (updX X σ.n _) (fac σ.F i) ≠ 0
      rw [← Pl.congr hc (H.hF i).1]; exact (H.hF i).2⟩
    hK := fun x hx => ⟨(H.hK x hx).1.mono (Nat.le_succ _), (H.hK x hx).2.trans (Cd.congr hc (H.hK x hx).1)⟩
    hR := H2.1
    hRn := H2.2
    hA := fun p hp => by
      rcases List.mem_cons.1 hp with rfl | hp
      · refine ⟨Nat.lt_succ_self _, ?_, ha, hb⟩
        unfold updX
        exact if_pos rfl
      · exact (H.hA p hp).up _
    hG := fun g hg => (H.hG g hg).up hc
    hD := fun d hd => (H.hD d hd).up hc }
theorem Sim.atom (H : Sim σ m X) {v : Rat} (hn : σ.n < FU) {k : AK} {a b : Pl} (hv : ∀ r, akB σ.R k a b = some r → InB r v) {x y : Int} (ha : a.Ok σ.n) (hb : b.Ok σ.n) (hx : (x : Rat) = a.ev X) (hy : (y : Rat) = b.ev X) (hvv : v = ((k.ev x y : Int) : Rat)) : Sim (σ.addN k a b) m (updX X σ.n v) := by
  subst hvv
  have hc : ∀ j, j < σ.n → X j = updX X σ.n ((k.ev x y : Int) : Rat) j := fun j hj => by unfold updX; rw [if_neg (by omega)]
  exact {
    hn := hn
    lI := H.lI
    lB := H.lB
    lQ := H.lQ
    hI := fun i u hu => by
      have := H.hI i u hu
      cases u with
      | fm a => exact Fm.Is.up hc H.hF this
      | sg p => exact ⟨this.1.mono (Nat.le_succ _), by rw [← Pl.congr hc this.1]; exact this.2⟩
    hB := fun i u hu => by
      have := H.hB i u hu
      cases u with
      | lit b => exact this
      | is b k => exact ⟨this.1.mono (Nat.le_succ _), this.2.trans (Cd.congr hc this.1)⟩
    hQ := fun i u hu => Fm.Is.up hc H.hF (H.hQ i u hu)
    hF := fun i => ⟨(H.hF i).1.mono (Nat.le_succ _), by
      show Pl.ev (updX X σ.n ((k.ev x y : Int) : Rat)) (fac σ.F i) ≠ 0
      rw [← Pl.congr hc (H.hF i).1]; exact (H.hF i).2⟩
    hK := posK_ok H hn ha hb hx hy
    hR := (addR_ok H.hR H.hRn hv).1
    hRn := (addR_ok H.hR H.hRn hv).2
    hA := fun p hp => (H.hA p hp).up _
    hG := addG_ok H ha hb hx hy
    hD := addD_ok H ha hb hx hy }
def numsI : Nat → Nat → List IV
  | _, 0 => []
  | i, n + 1 => .fm ⟨.var i, 0, []⟩ :: numsI (i + 1) n
def ss0 (R : List (Int × Int)) : SS := ⟨R.length, Sq.ofList .nil (numsI 0 R.length), .nil, .nil, [], [], R, [], [], []⟩
def valX (l : List Int) : Nat → Rat := fun i => ((l.getD i 0 : Int) : Rat)
theorem numsI_at : ∀ {n i j : Nat} {v : IV}, (numsI i n)[j]? = some v → j < n ∧ v = .fm ⟨.var (i + j), 0, []⟩
  | n + 1, i, 0, v, h => by
    have h : some (IV.fm ⟨.var i, 0, []⟩) = some v := h
    cases h; exact ⟨by omega, rfl⟩
  | n + 1, i, j + 1, v, h => by
    obtain ⟨h1, h2⟩ := numsI_at (n := n) (i := i + 1) (j := j) h
    exact ⟨by omega, by rw [h2, show i + 1 + j = i + (j + 1) by omega]⟩
theorem numsI_len : ∀ n i, (numsI i n).length = n
  | 0, _ => rfl
  | n + 1, i => by show (numsI (i + 1) n).length + 1 = _; rw [numsI_len n]
theorem Sim.start {R : List (Int × Int)} (l : List Int) (hl : All2 (fun (r : Int × Int) (n : Int) => r.1 ≤ n ∧ n ≤ r.2) R l) (hn : R.length ≤ FU) : Sim (ss0 R) (env0 l).m (valX l) where
  hn := hn
  lI := by
    show l.length = (Sq.ofList .nil (numsI 0 R.length)).n
    rw [Sq.n_ofList, numsI_len, All2.length hl]
    exact (Nat.zero_add _).symm
  lB := rfl
  lQ := rfl
  hI := fun i v hv => by
    rcases Sq.get_ofList _ .nil hv with ⟨h1, _⟩ | ⟨_, hv⟩
    · exact absurd h1 (Nat.not_lt_zero _)
    have hv : (numsI 0 R.length)[i]? = some v := hv
    obtain ⟨hi, rfl⟩ := numsI_at hv
    obtain ⟨h1, h2⟩ := Pl.var_ok (X := valX l) (n := R.length) (i := i) hi hn
    rw [Nat.zero_add]
    refine ⟨h2, fun t ht => (nomatch ht), ?_⟩
    show (((l.getD i 0 : Int)) : Rat) * (((0 + 1 : Nat) : Rat) * 1) = (Pl.var i).ev _
    rw [h1, show ((0 + 1 : Nat) : Rat) = 1 from rfl]
    unfold valX; grind
  hB := fun i v hv => nomatch hv
  hQ := fun i v hv => nomatch hv
  hF := FOk.nil
  hK := fun x hx => nomatch hx
  hR := fun i b e => by
    obtain ⟨y, hy, h1, h2⟩ := hl.get e
    show InB b ((l.getD i 0 : Int) : Rat)
    rw [List.getD_eq_getElem?_getD, hy]
    exact ⟨leC h1, leC h2⟩
  hRn := Nat.le_refl _
  hA := fun p hp => nomatch hp
  hG := fun p hp => nomatch hp
  hD := fun p hp => nomatch hp
def ssK (R : List (Int × Int)) (K : List (Cd × Bool)) : SS := ⟨R.length, Sq.ofList .nil (numsI 0 R.length), .nil, .nil, [], K, R, [], [], []⟩
end
end Go.Proofs.VM
namespace Go.Proofs.VM
open Go.RowKit Go.ChangeShapes Go.WideShapes
noncomputable section
def zs (is : List Nat) : Cd := .al (is.map Pl.var)
def rep (ks : List IntKind) : Nat → List IntKind
  | 0 => []
  | n + 1 => ks ++ rep ks n
def fieldsK (g : TypeId → Option (List IntKind)) (P : Program) : List Field → Nat → Option (List IntKind)
  | [], _ => some []
  | f :: l, o => match g f.type, fieldsK g P l (o + P.cellsOf f.type) with
    | some a, some b => match Nat.beq f.offset o && Nat.beq a.length (P.cellsOf f.type) with
      | true => some (a ++ b)
      | false => none
    | _, _ => none
def kindsOf (P : Program) : Nat → TypeId → Option (List IntKind)
  | 0, _ => none
  | n + 1, t => match P.underlying t with
    | some (.int k) => some [k]
    | some (.array m e) => match kindsOf P n e with
      | some ks => match Nat.beq ks.length (P.cellsOf e) && Nat.beq (P.cellsOf t) (m * P.cellsOf e) with
        | true => some (rep ks m)
        | false => none
      | none => none
    | some (.struct fs) => match fieldsK (kindsOf P n) P fs.toList 0 with
      | some ks => match Nat.beq ks.length (P.cellsOf t) with
        | true => some ks
        | false => none
      | none => none
    | _ => none
def IntOf (k : IntKind) (v : Value) : Prop := ∃ n, v = .int k n ∧ (Lit.int k n).wf = true
theorem All2.append' {α β : Type} {R : α → β → Prop} : ∀ {l l2 : List α} {k : List β}, All2 R l (k.take l.length) → All2 R l2 (k.drop l.length) → All2 R (l ++ l2) k
  | [], l2, k, _, h => by simpa using h
  | x :: l, l2, [], h, _ => by simp [All2] at h
  | x :: l, l2, y :: k, h, h2 => by
    simp only [List.length_cons, List.take_succ_cons, List.drop_succ_cons] at h h2
    exact ⟨h.1, All2.append' h.2 h2⟩
theorem rep_all2 {ks : List IntKind} {z : Nat} (hz : ks.length = z) : ∀ (m : Nat) {cs : List Value}, cs.length = m * z → (∀ i, i < m → All2 IntOf ks ((cs.drop (i * z)).take z)) → All2 IntOf (rep ks m) cs
  | 0, cs, hl, _ => by
    have : cs = [] := List.length_eq_zero_iff.1 (by rw [hl]; omega)
    subst this
    exact trivial
  | m + 1, cs, hl, h => by
    have e : (m + 1) * z = m * z + z := Nat.succ_mul m z
    refine All2.append' ?_ ?_
    · have := h 0 (by omega)
      rw [Nat.zero_mul, List.drop_zero] at this
      rw [hz]; exact this
    · rw [hz]
      refine rep_all2 hz m (by rw [List.length_drop]; omega) fun i hi => ?_
      have := h (i + 1) (by omega)
      rw [List.drop_drop]
      rw [show z + i * z = (i + 1) * z by rw [Nat.succ_mul]; omega]
      exact this
section
variable {H : Type} {enc : TypeId × Value → H} {P : Program} {w : World} {base : Nat} {spare : Nat → Bool} {held : Bool}
theorem fields_all2 {g : TypeId → Option (List IntKind)} {r : TypeId → List Value → Option (DataW H × List MemPlace)} {cs : List Value}
    (hg : ∀ t ks, g t = some ks → ∀ cs x, r t cs = some x → cs.length = P.cellsOf t → All2 IntOf ks cs) :
    ∀ (l : List Field) (o : Nat) {ks : List IntKind}, fieldsK g P l o = some ks → ks.length = cs.length - o → o ≤ cs.length → (∀ (f : Field), f ∈ l → ∃ x, r f.type ((cs.drop f.offset).take (P.cellsOf f.type)) = some x) → All2 IntOf ks (cs.drop o)
  | [], o, ks, h, hl, ho, _ => by
    cases h
    have : cs.drop o = [] := List.length_eq_zero_iff.1 (by rw [List.length_drop]; simp at hl; omega)
    rw [this]; exact trivial
  | f :: l, o, ks, h, hl, ho, hf => by
    unfold fieldsK at h
    split at h
    · rename_i a b ha hb
      split at h
      · rename_i he
        cases h
        simp only [Bool.and_eq_true] at he
        have e1 := Nat.eq_of_beq_eq_true he.1
        have e2 := Nat.eq_of_beq_eq_true he.2
        obtain ⟨x, hx⟩ := hf f (List.mem_cons_self ..)
        rw [e1] at hx
        rw [List.length_append, e2] at hl
        have hlen : ((cs.drop o).take (P.cellsOf f.type)).length = P.cellsOf f.type := by
          rw [List.length_take, List.length_drop]; omega
        have h1 := hg f.type a ha _ x hx hlen
        refine All2.append' ?_ ?_
        · rw [e2]; exact h1
        · rw [e2, List.drop_drop]
          exact fields_all2 hg l (o + P.cellsOf f.type) hb (by omega) (by omega) fun f hf' => hf f (List.mem_cons_of_mem _ hf')
      · cases h
    · cases h
theorem kinds_all2 : ∀ (n : Nat) (t : TypeId) {ks : List IntKind}, kindsOf P n t = some ks → ∀ {fuel : Nat} {cs : List Value} {x : DataW H × List MemPlace}, DataW.trod enc P w base spare held fuel t cs = some x → All2 IntOf ks cs
  | 0, _, _, h, _, _, _, _ => nomatch h
  | n + 1, t, ks, h, fuel, cs, x, hx => by
    unfold kindsOf at h
    split at h
    · rename_i k hk
      cases h
      obtain ⟨m, rfl, _, hw⟩ := DataW.trod_int hk hx
      exact ⟨⟨m, rfl, hw⟩, trivial⟩
    · rename_i m e hk
      split at h
      · rename_i ks' hks
        split at h
        · rename_i he
          cases h
          simp only [Bool.and_eq_true] at he
          have e1 := Nat.eq_of_beq_eq_true he.1
          have e2 := Nat.eq_of_beq_eq_true he.2
          obtain ⟨xs, m1, _, _, hlen, hxs, hel⟩ := DataW.trod_array hk hx
          refine rep_all2 e1 m (by rw [hlen, e2]) fun i hi => ?_
          have h1 := hel i hi
          rw [List.getElem?_eq_getElem (by omega)] at h1
          exact kinds_all2 n e hks h1
        · cases h
      · cases h
    · rename_i fs hk
      split at h
      · rename_i ks' hks
        split at h
        · rename_i he
          cases h
          have e1 := Nat.eq_of_beq_eq_true he
          obtain ⟨xs, m1, _, _, hlen, hxs, hel⟩ := DataW.trod_struct hk hx
          have := fields_all2 (g := kindsOf P n) (r := fun t cs => DataW.trod enc P w base spare held m1 t cs) (cs := cs) (fun t ks hks cs x hx _ => kinds_all2 n t hks hx) fs.toList 0 hks (by omega) (by omega) (fun f hf => by
            obtain ⟨i, hi, rfl⟩ := List.mem_iff_getElem.1 hf
            have hi' : i < fs.size := by simpa using hi
            have h1 := hel i fs[i] (by simp [hi'])
            rw [List.getElem?_eq_getElem (by omega)] at h1
            exact ⟨_, by simpa using h1⟩)
          simpa using this
        · cases h
      · cases h
    · cases h
end
inductive Arg where
  | one (k : IntKind)
  | row (ks : List IntKind)
def Arg.ks : Arg → List IntKind
  | .one k => [k]
  | .row ks => ks
def ivs : List IntKind → Nat → List CV
  | [], _ => []
  | k :: ks, i => .iv k i :: ivs ks (i + 1)
def Arg.av : Arg → Nat → AV
  | .one k, i => .c (.iv k i)
  | .row ks, i => .agg (ivs ks i)
def avsOf : List Arg → Nat → List AV
  | [], _ => []
  | a :: l, i => a.av i :: avsOf l (i + a.ks.length)
def Arg.isV (a : Arg) (v : Value) : Prop := match a with
  | .one k => IntOf k v
  | .row ks => ∃ cs : Array Value, v = .agg cs ∧ All2 IntOf ks cs.toList
theorem wf_range {k : IntKind} {n : Int} (h : (Lit.int k n).wf = true) : k.min ≤ n ∧ n ≤ k.max := by
  simpa [Lit.wf] using h
theorem All2.snoc {α β : Type} {R : α → β → Prop} {l2 : List α} {k2 : List β} : ∀ {l : List α} {k : List β}, All2 R l k → All2 R l2 k2 → All2 R (l ++ l2) (k ++ k2)
  | [], [], _, h2 => h2
  | _ :: _, _ :: _, ⟨a, b⟩, h2 => ⟨a, All2.snoc b h2⟩
def argOf (P : Program) (t : TypeId) : Option Arg := match P.underlying t with
  | some (.int k) => some (.one k)
  | some (.array _ _) => (kindsOf P 5 t).map .row
  | some (.struct _) => (kindsOf P 5 t).map .row
  | _ => none
theorem okWide_arr {P : Program} {w : World} {r : Reach} {base : Nat} {t : TypeId} {v : Value} {n : Nat} {e : TypeId} (ht : P.underlying t = some (.array n e)) (h : Value.okWide P w r base t v) : ∃ cs, v = .agg cs := by
  simp only [Value.okWide, ht] at h
  obtain ⟨cs, h1, _⟩ := h
  exact ⟨cs, h1⟩
theorem okWide_str {P : Program} {w : World} {r : Reach} {base : Nat} {t : TypeId} {v : Value} {fs : Array Field} (ht : P.underlying t = some (.struct fs)) (h : Value.okWide P w r base t v) : ∃ cs, v = .agg cs := by
  simp only [Value.okWide, ht] at h
  obtain ⟨cs, h1, _⟩ := h
  exact ⟨cs, h1⟩
theorem arg_isV {H : Type} {enc : TypeId × Value → H} {P : Program} {w : World} {b0 base : Nat} {spare : Nat → Bool} {held : Bool} {r : Reach} {t : TypeId} {a : Arg} {v : Value} {d : DataW H} {ps : List MemPlace} (ha : argOf P t = some a) (hval : Value.okWide P w r b0 t v) (hd : DataW.Trod enc P w base spare held t v d ps) : a.isV v := by
  unfold argOf at ha
  split at ha
  · rename_i k hk
    cases ha
    obtain ⟨n, h1, _, _, hw⟩ := open_int hk hval hd
    exact ⟨n, h1, hw⟩
  · rename_i n e hk
    obtain ⟨ks, hks, rfl⟩ := Option.map_eq_some_iff.1 ha
    obtain ⟨cs, rfl⟩ := okWide_arr hk hval
    obtain ⟨fuel, hf⟩ := hd
    exact ⟨cs, rfl, kinds_all2 5 t hks hf⟩
  · rename_i fs hk
    obtain ⟨ks, hks, rfl⟩ := Option.map_eq_some_iff.1 ha
    obtain ⟨cs, rfl⟩ := okWide_str hk hval
    obtain ⟨fuel, hf⟩ := hd
    exact ⟨cs, rfl, kinds_all2 5 t hks hf⟩
  · cases ha
def RT.allYes : RT → Bool
  | .yes => true
  | .ask _ t f => match t.allYes with
    | true => f.allYes
    | false => false
  | .atom _ _ _ _ t => t.allYes
  | .letter _ t => t.allYes
  | .both t f => match t.allYes with
    | true => f.allYes
    | false => false
  | _ => false
theorem RT.allYes_ok : ∀ (t : RT) (X : Nat → Rat), t.allYes = true → t.ok X
  | .yes, _, _ => trivial
  | .ask c t f, X, h => by
    unfold RT.allYes at h
    split at h
    · rename_i h1; exact ⟨fun _ => allYes_ok t X h1, fun _ => allYes_ok f X h⟩
    · cases h
  | .atom n k a b t, X, h => fun v _ _ _ _ _ => allYes_ok t _ (by unfold RT.allYes at h; exact h)
  | .letter n t, X, h => fun v => allYes_ok t _ (by unfold RT.allYes at h; exact h)
  | .both t f, X, h => by
    unfold RT.allYes at h
    split at h
    · rename_i h1; exact ⟨allYes_ok t X h1, allYes_ok f X h⟩
    · cases h
  | .no, _, h => by cases h
  | .bad _, _, h => by cases h
  | .goal _ _, _, h => by cases h
  | .need _ _ _, _, h => by cases h
  | .dvd _ _ _, _, h => by cases h
theorem box {ex : Bool} {call : CallF} {f : FuncId} {al : List Arg} {L : List Int} (R : List (Int × Int)) (hR : All2 (fun (r : Int × Int) (n : Int) => r.1 ≤ n ∧ n ≤ r.2) R L) (hle : R.length ≤ FU)
    (h : (simp ex (call f (avsOf al 0) (stOf R)).ans (ssK R [])).allYes = true) :
    ∃ R K r, All2 (fun (r : Int × Int) (n : Int) => r.1 ≤ n ∧ n ≤ r.2) R L ∧ R.length ≤ FU ∧ KOk (valX L) R.length K ∧ simp ex (call f (avsOf al 0) (stOf R)).ans (ssK R K) = r ∧ r.ok (valX L) :=
  ⟨R, [], _, hR, hle, fun _ hx => (nomatch hx), rfl, RT.allYes_ok _ _ h⟩
end
end Go.Proofs.VM
