import Derived.Test.YtlncagdekfjinaaGreatDoorVmC
import Derived.Test.YtlncagdekfjinaaGreatDoorVmF
namespace Go.Proofs.VM
open Go.RowKit
noncomputable section
variable {T : FT} {w0 : World} {P : Program}
/-! ### slots -/
theorem Tr.get_set_if {α : Type} (t : Tr α) (d i : Nat) (x : α) : (t.set d x).get i = if i = d then (t.get d).map (fun _ => x) else t.get i := by
  induction t generalizing d i with
  | nil => split <;> rfl
  | node v l r ihl ihr =>
    cases d with
    | zero => cases i with
      | zero => rfl
      | succ k => rfl
    | succ j => cases i with
      | zero =>
        rw [Tr.set_succ]
        split <;> rfl
      | succ k =>
        rw [Tr.set_succ]
        by_cases e : k = j
        · subst e
          rw [if_pos rfl]
          split
          · rename_i hm
            rw [Tr.get_succ, Tr.get_succ, hm]
            exact (ihl (k / 2) (k / 2)).trans (if_pos rfl)
          · rename_i n hm
            rw [Tr.get_succ, Tr.get_succ, hm]
            exact (ihr (k / 2) (k / 2)).trans (if_pos rfl)
        · rw [if_neg (by omega)]
          split
          · rename_i hm
            rw [Tr.get_succ, Tr.get_succ]
            split
            · rename_i hk
              have : k / 2 ≠ j / 2 := by omega
              exact (ihl (j / 2) (k / 2)).trans (if_neg this)
            · rfl
          · rename_i n hm
            rw [Tr.get_succ, Tr.get_succ]
            split
            · rfl
            · rename_i hk
              have : k / 2 ≠ j / 2 := by omega
              exact (ihr (j / 2) (k / 2)).trans (if_neg this)
def Tr.has {α : Type} (t : Tr α) (i : Nat) : Prop := (t.get i).isSome = true
theorem Tr.has_set {α : Type} (t : Tr α) (d i : Nat) (x : α) : (t.set d x).has i = t.has i := by
  unfold Tr.has
  rw [Tr.get_set_if]
  split
  · rename_i e; subst e; simp
  · rfl
theorem Tr.get_set_same {α : Type} {t : Tr α} {d : Nat} (h : t.has d) (x : α) : (t.set d x).get d = some x := by
  rw [Tr.get_set_if, if_pos rfl]
  unfold Tr.has at h
  cases e : t.get d with
  | none => rw [e] at h; cases h
  | some y => rfl
theorem Tr.get_set_ne {α : Type} (t : Tr α) {d i : Nat} (h : i ≠ d) (x : α) : (t.set d x).get i = t.get i := by rw [Tr.get_set_if, if_neg h]
theorem TL.has_sets : ∀ (avs : List AV) (t : TL) (k i : Nat), (TL.sets t k avs).has i = t.has i
  | [], _, _, _ => rfl
  | a :: l, t, k, i => by
    show (TL.sets (t.set k (.v a)) (k + 1) l).has i = _
    rw [TL.has_sets l, Tr.has_set]
theorem TL.get_sets : ∀ (avs : List AV) (t : TL) (k i : Nat), (∀ j, k ≤ j → j < k + avs.length → t.has j) → (TL.sets t k avs).get i = if k ≤ i ∧ i < k + avs.length then (avs[i - k]?).map .v else t.get i
  | [], t, k, i, _ => by rw [if_neg (by simp only [List.length_nil]; omega)]; rfl
  | a :: l, t, k, i, h => by
    show (TL.sets (t.set k (.v a)) (k + 1) l).get i = _
    rw [TL.get_sets l _ (k + 1) i (fun j h1 h2 => by rw [Tr.has_set]; exact h j (by omega) (by simp; omega))]
    by_cases e : i = k
    · subst e
      rw [if_neg (by omega), if_pos (by simp), Tr.get_set_same (h i (by omega) (by simp))]
      simp
    · rw [Tr.get_set_ne _ e]
      by_cases h2 : k + 1 ≤ i ∧ i < k + 1 + l.length
      · rw [if_pos h2, if_pos (by simp; omega), show i - k = (i - (k + 1)) + 1 by omega]
        simp
      · rw [if_neg h2, if_neg (by simp; omega)]
theorem Tr.full_get {α : Type} (x : α) : ∀ (f n i : Nat), n ≤ f → i < n → (Tr.full x f n).get i = some x
  | 0, n, i, h, hi => by omega
  | f + 1, 0, i, h, hi => by omega
  | f + 1, n + 1, 0, h, hi => rfl
  | f + 1, n + 1, k + 1, h, hi => by
    show (Tr.node x (Tr.full x f ((n + 1) / 2)) (Tr.full x f (n / 2))).get (k + 1) = _
    rw [Tr.get_succ]
    split
    · exact Tr.full_get x f _ _ (by omega) (by omega)
    · exact Tr.full_get x f _ _ (by omega) (by omega)
theorem TL.start_get (n : Nat) (avs : List AV) (hn : avs.length ≤ n) (i : Nat) (hi : i < n) : (TL.start n avs).get i = some ((avs[i]?).elim (.tup []) .v) := by
  unfold TL.start
  rw [TL.get_sets avs _ 0 i (fun j _ h => by unfold Tr.has; rw [Tr.full_get _ _ _ _ (Nat.le_refl _) (by omega)]; rfl)]
  by_cases h : i < avs.length
  · rw [if_pos (by omega)]; simp [h]
  · rw [if_neg (by omega), Tr.full_get _ _ _ _ (Nat.le_refl _) hi]; simp [h]
theorem TL.start_has (n : Nat) (avs : List AV) (hn : avs.length ≤ n) (i : Nat) (hi : i < n) : (TL.start n avs).has i := by
  unfold Tr.has; rw [TL.start_get n avs hn i hi]; rfl
theorem bind_leaf {α β : Type} (x : α) (f : α → Tree β) : (Tree.leaf x).bind f = f x := rfl
theorem bind_fail {α β : Type} (why : String) (f : α → Tree β) : (Tree.fail why).bind f = .fail why := rfl
theorem Tree.vc_monoS {α : Type} {txt : Rat → List UInt8} {K K' : α → M → Prop} (h : ∀ x m, K x m → K' x m) : ∀ {t : Tree α} {m : M}, t.vc txt m K → t.vc txt m K'
  | .leaf _, _, k => h _ _ k
  | .letI _ t, _, k => fun n e => Tree.vc_monoS h (t := t) (k n e)
  | .letB _ t, _, k => fun n e => Tree.vc_monoS h (t := t) (k n e)
  | .letS _ t, _, k => fun n e => Tree.vc_monoS h (t := t) (k n e)
  | .letQ _ t, _, k => fun n e => Tree.vc_monoS h (t := t) (k n e)
  | .ifB _ t e, _, k => ⟨fun b => Tree.vc_monoS h (t := t) (k.1 b), fun b => Tree.vc_monoS h (t := e) (k.2 b)⟩
  | .need _ t, _, k => ⟨k.1, Tree.vc_monoS h (t := t) k.2⟩
  | .fail _, _, k => k
  | .both t e, _, k => ⟨Tree.vc_monoS h (t := t) k.1, Tree.vc_monoS h (t := e) k.2⟩
theorem cmp_lss (s : St) (x y : Int) : aCmp s .lss (.l x) (.l y) = .leaf (.v (.c (.bl (decide (x < y)))), s) := by
  unfold aCmp knownLt rangeOf bLit
  by_cases h : x < y
  · simp [h]
  · simp [h, Int.not_lt.1 h]
theorem cmp_gtr (s : St) (x y : Int) : aCmp s .gtr (.l x) (.l y) = .leaf (.v (.c (.bl (decide (y < x)))), s) := cmp_lss s y x
theorem cmp_leq (s : St) (x y : Int) : aCmp s .leq (.l x) (.l y) = .leaf (.v (.c (.bl (decide (x ≤ y)))), s) := by
  unfold aCmp knownLt rangeOf bLit
  by_cases h : y < x
  · simp [h]
  · simp [h, Int.not_lt.1 h]
theorem cmp_geq (s : St) (x y : Int) : aCmp s .geq (.l x) (.l y) = .leaf (.v (.c (.bl (decide (y ≤ x)))), s) := cmp_leq s y x
theorem cmp_eql (s : St) (x y : Int) : aCmp s .eql (.l x) (.l y) = .leaf (.v (.c (.bl (decide (x = y)))), s) := by
  unfold aCmp knownEq rangeOf bLit
  by_cases h : x = y
  · subst h; simp
  · have : x < y ∨ y < x := by omega
    simp [h, this]
theorem cmp_neq (s : St) (x y : Int) : aCmp s .neq (.l x) (.l y) = .leaf (.v (.c (.bl (!decide (x = y)))), s) := by
  unfold aCmp knownEq rangeOf bLit
  by_cases h : x = y
  · subst h; simp
  · have : x < y ∨ y < x := by omega
    simp [h, this]
theorem arith_add (s : St) (k : IntKind) (x y : Int) : aArith s .add k (.l x) (.l y) = .leaf (.v (.c (.il k (k.wrap (x + y)))), s) := rfl
theorem arith_sub (s : St) (k : IntKind) (x y : Int) : aArith s .sub k (.l x) (.l y) = .leaf (.v (.c (.il k (k.wrap (x - y)))), s) := rfl
theorem arith_mul (s : St) (k : IntKind) (x y : Int) : aArith s .mul k (.l x) (.l y) = .leaf (.v (.c (.il k (k.wrap (x * y)))), s) := rfl
theorem wrap64 {z : Int} (h1 : -9223372036854775808 ≤ z) (h2 : z ≤ 9223372036854775807) : IntKind.i64.wrap z = z := wrap_in (k := .i64) h1 h2
theorem vc_call {α β : Type} {txt : Rat → List UInt8} {t : Tree α} {f : α → Tree β} {m : M} {R : α → M → Prop} {K : β → M → Prop} (h : t.vc txt m R) (k : ∀ x m', R x m' → (f x).vc txt m' K) : (t.bind f).vc txt m K :=
  (Tree.vc_bind t m).2 (Tree.vc_monoS k h)
theorem vc_leaf {α : Type} {txt : Rat → List UInt8} {x : α} {m : M} {K : α → M → Prop} (h : K x m) : (Tree.leaf x).vc txt m K := h
theorem vc_cond {α : Type} {txt : Rat → List UInt8} {b : Bool} {x y : Tree α} {m : M} {K : α → M → Prop} (h1 : b = true → x.vc txt m K) (h2 : b = false → y.vc txt m K) : (cond b x y).vc txt m K := by
  cases b
  · exact h2 rfl
  · exact h1 rfl
theorem bind_cond {α β : Type} (b : Bool) (x y : Tree α) (f : α → Tree β) : (cond b x y).bind f = cond b (x.bind f) (y.bind f) := by cases b <;> rfl
theorem bind_bind {α β γ : Type} (f : α → Tree β) (g : β → Tree γ) : ∀ (t : Tree α), (t.bind f).bind g = t.bind fun x => (f x).bind g
  | .leaf _ => rfl
  | .letI d t => congrArg (Tree.letI d) (bind_bind f g t)
  | .letB d t => congrArg (Tree.letB d) (bind_bind f g t)
  | .letS d t => congrArg (Tree.letS d) (bind_bind f g t)
  | .letQ d t => congrArg (Tree.letQ d) (bind_bind f g t)
  | .ifB i t e => congr (congrArg (Tree.ifB i) (bind_bind f g t)) (bind_bind f g e)
  | .need d t => congrArg (Tree.need d) (bind_bind f g t)
  | .fail _ => rfl
  | .both t e => congr (congrArg Tree.both (bind_bind f g t)) (bind_bind f g e)
theorem vc_loop {txt : Rat → List UInt8} {x : Run} {K : AX × CSt → M → Prop} (I : Nat → CSt → M → Prop) (step : ∀ k c m, I k c m → (x c).vc txt m fun r m' => match r.1 with | .normal => ∃ j, j < k ∧ I j r.2 m' | _ => K r m') :
    ∀ (N k : Nat) (c : CSt) (m : M), k < N → I k c m → (iter x N c).vc txt m K
  | 0, k, c, m, h, _ => absurd h (Nat.not_lt_zero _)
  | N + 1, k, c, m, h, hI => by
    unfold iter
    refine vc_call (step k c m hI) fun r m' hr => ?_
    obtain ⟨e, s⟩ := r
    cases e with
    | normal =>
      obtain ⟨j, hj, hI'⟩ := hr
      exact vc_loop I step N j s m' (by omega) hI'
    | exit id => exact hr
    | ret => exact hr
inductive Sets (W : List Nat) (t : TL) : TL → Prop where
  | refl : Sets W t t
  | set {u : TL} (h : Sets W t u) (d : Nat) (hd : d ∈ W) (x : TV) : Sets W t (u.set d x)
theorem Sets.get {W : List Nat} {t u : TL} (h : Sets W t u) {i : Nat} (hi : i ∉ W) : u.get i = t.get i := by
  induction h with
  | refl => rfl
  | set h d hd x ih => rw [Tr.get_set_ne _ (by rintro rfl; exact hi hd), ih]
theorem Sets.has {W : List Nat} {t u : TL} (h : Sets W t u) (i : Nat) : u.has i = t.has i := by
  induction h with
  | refl => rfl
  | set h d hd x ih => rw [Tr.has_set, ih]
theorem Sets.trans {W : List Nat} {t u v : TL} (h : Sets W t u) (k : Sets W u v) : Sets W t v := by
  induction k with
  | refl => exact h
  | set k d hd x ih => exact .set ih d hd x
theorem Sets.map {W : List Nat} {t u : TL} (h : Sets W t u) {n : Nat} (ht : ∀ i, i < n → t.has i) {d : Nat} (hd : d < n) (x : TV) : (u.get d).map (fun _ => x) = some x := by
  have := ht d hd
  rw [← h.has] at this
  unfold Tr.has at this
  cases e : u.get d with
  | none => rw [e] at this; cases this
  | some y => rfl
def Sl (s : St) (v : CV) (n b off : Nat) (blk : Blk) : Prop := ((∃ c, v = .sc b off n c) ∨ (∃ d, v = .sg b off n d)) ∧ look s.heap b = some blk
structure Vw (s : St) (v : CV) (n z : Nat) (cs : List CV) : Prop where
  len : cs.length = n * z
  form : (v = .nsl ∧ n = 0) ∨ ∃ b off blk, Sl s v n b off blk ∧ (blk.cells.drop off).take (n * z) = cs
theorem Vw.blen {s : St} {v : CV} {n z : Nat} {cs : List CV} (h : Vw s v n z cs) {t el : TypeId} (hu : P.underlying t = some (.slice el)) (s' : St) : aBuiltin P s' .len #[t] [.c v] = .leaf (.v (.c (.il .i64 n)), s') := by
  have key : ∀ x, aLen P t (.c v) = some x → (match v with | .fc _ 1 => False | _ => True) → aBuiltin P s' .len #[t] [.c v] = .leaf (.v (.c x), s') := by
    intro x hx hv
    unfold aBuiltin
    cases v <;> simp_all [aLen]
  rcases h.form with ⟨rfl, rfl⟩ | ⟨b, off, blk, ⟨h | h, _⟩, _⟩
  · exact key _ (by simp [aLen, hu]) trivial
  · obtain ⟨c, rfl⟩ := h; exact key _ (by simp [aLen, hu]) trivial
  · obtain ⟨d, rfl⟩ := h; exact key _ (by simp [aLen, hu]) trivial
theorem Vw.at_ {s : St} {v : CV} {n z : Nat} {cs : List CV} (h : Vw s v n z cs) {t el : TypeId} (hu : P.underlying t = some (.slice el)) (hz : sizeT P el = some z) (hn : 0 < n) :
    ∃ b off blk, look s.heap b = some blk ∧ (∀ (k : IntKind) (i : Nat), i < n → aIndexAddr P t v (.il k (i : Int)) = some (.pt b (off + i * z))) ∧ (∀ i j, i < n → j < z → blk.cells[off + i * z + j]? = cs[i * z + j]?) := by
  rcases h.form with ⟨rfl, rfl⟩ | ⟨b, off, blk, ⟨hv, hb⟩, hc⟩
  · omega
  · refine ⟨b, off, blk, hb, fun k i hi => ?_, fun i j hi hj => ?_⟩
    · rcases hv with ⟨c, rfl⟩ | ⟨d, rfl⟩
      · simp only [aIndexAddr, hu, hz]; rw [if_pos (by omega)]; simp
      · simp only [aIndexAddr, hu, hz]; rw [if_pos (by omega)]; simp
    · have hlt : i * z + j < n * z := by
        have : (i + 1) * z ≤ n * z := Nat.mul_le_mul_right z hi
        rw [Nat.succ_mul] at this; omega
      rw [← hc, List.getElem?_take, if_pos hlt, List.getElem?_drop, Nat.add_assoc]
theorem Vw.same {s s' : St} {v : CV} {n z : Nat} {cs : List CV} (h : Vw s v n z cs) (hs : ∀ id b, look s.heap id = some b → look s'.heap id = some b) : Vw s' v n z cs := by
  refine ⟨h.len, ?_⟩
  rcases h.form with h | ⟨b, off, blk, ⟨hv, hb⟩, hc⟩
  · exact .inl h
  · exact .inr ⟨b, off, blk, ⟨hv, hs _ _ hb⟩, hc⟩
def ints (k : IntKind) (zs : List Int) : List CV := zs.map (.il k)
theorem ints_length (k : IntKind) (zs : List Int) : (ints k zs).length = zs.length := by simp [ints]
theorem ints_get (k : IntKind) (zs : List Int) (i : Nat) (h : i < zs.length) : (ints k zs)[i]? = some (.il k zs[i]) := by simp [ints, h]
abbrev Ints (s : St) (v : CV) (k : IntKind) (zs : List Int) : Prop := Vw s v zs.length 1 (ints k zs)
theorem Ints.at_ {s : St} {v : CV} {k : IntKind} {zs : List Int} (h : Ints s v k zs) {t el : TypeId} (hu : P.underlying t = some (.slice el)) (hz : sizeT P el = some 1) (hr : rowT P el = some false) (hn : 0 < zs.length) :
    ∃ b off, (∀ (ki : IntKind) (i : Nat), i < zs.length → aIndexAddr P t v (.il ki (i : Int)) = some (.pt b (off + i))) ∧ (∀ i (hi : i < zs.length), aLoad P s el (.pt b (off + i)) = some (.c (.il k zs[i]))) := by
  obtain ⟨b, off, blk, hb, h1, h2⟩ := Vw.at_ h hu hz hn
  refine ⟨b, off, fun ki i hi => by rw [h1 ki i hi, Nat.mul_one], fun i hi => ?_⟩
  have := h2 i 0 hi (by omega)
  simp only [Nat.mul_one, Nat.add_zero] at this
  simp only [aLoad, hb, hr]
  rw [this, ints_get k zs i hi]; rfl
section
variable {call : CallF} {yld : YldF} {draw : DrawF} {N : Nat} {rd : Bool}
def seqK (y : Run) (r : AX × CSt) : Tree (AX × CSt) := match r.1 with
  | .normal => y r.2
  | _ => .leaf r
theorem code_seq (a b : Code) (s : CSt) : aCode P call yld draw N rd (.seq a b) s = (aCode P call yld draw N rd a s).bind (seqK (aCode P call yld draw N rd b)) := rfl
theorem seqK_normal (y : Run) (s : CSt) : seqK y (.normal, s) = y s := rfl
theorem seqK_exit (y : Run) (i : Nat) (s : CSt) : seqK y (.exit i, s) = .leaf (.exit i, s) := rfl
theorem seqK_ret (y : Run) (s : CSt) : seqK y (.ret, s) = .leaf (.ret, s) := rfl
def regK (ds : List Nat) (s : ASt) : Tree (AX × CSt) := .leaf (.normal, ⟨s, ds⟩)
theorem regK_leaf (ds : List Nat) (s : ASt) : regK ds s = .leaf (.normal, ⟨s, ds⟩) := rfl
theorem code_region (id : Nat) (ops : Array Oper) (s : CSt) : aCode P call yld draw N rd (.region id ops false) s = (aOpsY P call yld ops ops.toList s.s).bind (regK s.ds) := rfl
theorem code_draw (id : Nat) (ops : Array Oper) (s : CSt) (h : noDefer ops = true) : aCode P call yld draw N rd (.region id ops true) s = (draw ops s.s).bind (regK s.ds) := by
  show (match noDefer ops with | true => _ | false => _) = _
  rw [h]; rfl
def condK (c : Option CV) (x y : Run) (s : CSt) : Tree (AX × CSt) := match c with
  | some (.bl true) => x s
  | some (.bl false) => y s
  | some (.bv i) => .ifB i (x s) (y s)
  | _ => .fail "cond"
theorem code_cond (o : Operand) (x y : Code) (s : CSt) : aCode P call yld draw N rd (.cond o x y) s = condK (evalC s.s.tmps o) (aCode P call yld draw N rd x) (aCode P call yld draw N rd y) s := rfl
theorem condK_true (x y : Run) (s : CSt) : condK (some (.bl true)) x y s = x s := rfl
theorem condK_false (x y : Run) (s : CSt) : condK (some (.bl false)) x y s = y s := rfl
def blkK (id : Nat) (r : AX × CSt) : Tree (AX × CSt) := match r.1 with
  | .exit j => if j = id then .leaf (.normal, r.2) else .leaf r
  | _ => .leaf r
theorem code_block (id : Nat) (b : Code) (s : CSt) : aCode P call yld draw N rd (.block id b) s = (aCode P call yld draw N rd b s).bind (blkK id) := rfl
theorem blkK_normal (id : Nat) (s : CSt) : blkK id (.normal, s) = .leaf (.normal, s) := rfl
theorem blkK_ret (id : Nat) (s : CSt) : blkK id (.ret, s) = .leaf (.ret, s) := rfl
theorem blkK_exit (id j : Nat) (s : CSt) : blkK id (.exit j, s) = if j = id then .leaf (.normal, s) else .leaf (.exit j, s) := rfl
theorem code_loop (b : Code) (s : CSt) : aCode P call yld draw N rd (.loop b) s = iter (aCode P call yld draw N rd b) N s := rfl
theorem code_skip (s : CSt) : aCode P call yld draw N rd .skip s = .leaf (.normal, s) := rfl
theorem code_exit (i : Nat) (s : CSt) : aCode P call yld draw N rd (.exit i) s = .leaf (.exit i, s) := rfl
theorem code_ret (s : CSt) : aCode P call yld draw N rd .ret s = .leaf (.ret, s) := rfl
theorem code_label (l : Nat) (s : CSt) : aCode P call yld draw N rd (.label l) s = .leaf (.normal, s) := rfl
theorem code_scope (b : Code) (s : CSt) : aCode P call yld draw N rd (.scope b) s = aCode P call yld draw N rd b s := rfl
def bodyK (P : Program) (fn : Func) (s : St) (r : AX × CSt) : Tree (TV × St) := match r.1 with
  | .exit _ => .fail "exit"
  | _ => endBody P fn s r.2
theorem bodyK_normal (fn : Func) (s : St) (c : CSt) : bodyK P fn s (.normal, c) = endBody P fn s c := rfl
theorem bodyK_ret (fn : Func) (s : St) (c : CSt) : bodyK P fn s (.ret, c) = endBody P fn s c := rfl
theorem body_run {f : FuncId} {fn : Func} {c : Code} (h : P.funcs[f]? = some fn) (hb : fn.body = some c) (avs : List AV) (s : St) : runBody P call yld draw N f avs s = (aCode P call yld draw N false c ⟨⟨TL.start (avs.length + (fn.ntmps - avs.length)) avs, s⟩, []⟩).bind (bodyK P fn s) := by
  unfold runBody
  rw [h]
  simp only [hb]
  rfl
def retK (s : St) (r : TV × St) : Tree (TV × St) := if r.1.isV = true then .leaf (r.1, r.2.setHeap (oldOf s.nb r.2.heap)) else .leaf r
theorem retK_pair (s : St) (v : TV) (s' : St) : retK s (v, s') = if v.isV = true then .leaf (v, s'.setHeap (oldOf s.nb s'.heap)) else .leaf (v, s') := rfl
theorem retK_v (s : St) (v : TV) (s' : St) (h : v.isV = true) : retK s (v, s') = .leaf (v, s'.setHeap (oldOf s.nb s'.heap)) := if_pos h
theorem retK_m (s : St) (v : TV) (s' : St) (h : v.isV = false) : retK s (v, s') = .leaf (v, s') := if_neg (by simp [h])
end
theorem vc_leaf_eq {α : Type} {txt : Rat → List UInt8} {x : α} {m : M} {K : α → M → Prop} : (Tree.leaf x).vc txt m K = K x m := rfl
theorem TL.start_all (n : Nat) (avs : List AV) (hn : avs.length ≤ n) : ∀ i, i < n → (TL.start n avs).has i := fun i hi => TL.start_has n avs hn i hi
def Tr.all {α : Type} (t : Tr α) (n : Nat) : Prop := ∀ i, i < n → t.has i
theorem Tr.all_set {α : Type} {t : Tr α} {n : Nat} (h : t.all n) (d : Nat) (x : α) : (t.set d x).all n := fun i hi => by rw [Tr.has_set]; exact h i hi
theorem Tr.all.map {α : Type} {t : Tr α} {n : Nat} (h : t.all n) (d : Nat) (x : α) (hd : d < n) : (t.get d).map (fun _ => x) = some x := by
  have := h d hd
  unfold Tr.has at this
  cases e : t.get d with
  | none => rw [e] at this; cases this
  | some y => rfl
theorem Sets.all {W : List Nat} {t u : TL} (h : Sets W t u) {n : Nat} (ht : t.all n) : u.all n := fun i hi => by rw [h.has]; exact ht i hi
end
end Go.Proofs.VM
namespace Go.Proofs.VM
open Go.RowKit
noncomputable section
variable {T : FT} {w0 : World} {P : Program}
theorem Tr.all_set_iff {α : Type} (t : Tr α) (n d : Nat) (x : α) : (t.set d x).all n ↔ t.all n := by
  unfold Tr.all
  exact forall_congr' fun i => by rw [Tr.has_set]
theorem vc_for {txt : Rat → List UInt8} {x : Run} {K : AX × CSt → M → Prop} (W : List Nat) (facts : List (Nat × TV)) (n : Nat) (J : Nat → TL → St → M → Prop) {N : Nat} {t0 : TL} {st0 : St} {m0 : M} (k0 : Nat)
    (hW : ∀ p ∈ facts, p.1 ∉ W) (hf : ∀ p ∈ facts, t0.get p.1 = some p.2) (ha : t0.all n) (hN : k0 < N) (h0 : J k0 t0 st0 m0)
    (step : ∀ (k : Nat) (t : TL) (st : St) (m : M), (∀ p ∈ facts, t.get p.1 = some p.2) → (∀ (d : Nat) (x : TV), d < n → (t.get d).map (fun _ => x) = some x) → t.all n → J k t st m →
      (x ⟨⟨t, st⟩, []⟩).vc txt m fun r m' => match r.1 with | .normal => Sets W t r.2.s.tmps ∧ r.2.ds = [] ∧ ∃ j, j < k ∧ J j r.2.s.tmps r.2.s.st m' | _ => K r m') : (iter x N ⟨⟨t0, st0⟩, []⟩).vc txt m0 K := by
  refine vc_loop (fun k c m => c.ds = [] ∧ Sets W t0 c.s.tmps ∧ J k c.s.tmps c.s.st m) ?_ N k0 _ m0 hN ⟨rfl, .refl, h0⟩
  rintro k ⟨⟨t, st⟩, ds⟩ m ⟨hds, hS, hJ⟩
  simp only at hds hS hJ
  subst hds
  have hta := hS.all ha
  refine Tree.vc_monoS ?_ (step k t st m (fun p hp => by rw [hS.get (hW p hp)]; exact hf p hp) hta.map hta hJ)
  rintro ⟨e, c⟩ m' h
  cases e with
  | normal => obtain ⟨h1, h2, j, h3, h4⟩ := h; exact ⟨j, h3, h2, hS.trans h1, h4⟩
  | exit id => exact h
  | ret => exact h
theorem vc_range {txt : Rat → List UInt8} {x : Run} {K : AX × CSt → M → Prop} (W : List Nat) (facts : List (Nat × TV)) (ns cnt n : Nat) (J : Nat → TL → St → M → Prop) {N : Nat} {t0 : TL} {st0 : St} {m0 : M}
    (hW : ∀ p ∈ facts, p.1 ∉ W) (hf : ∀ p ∈ facts, t0.get p.1 = some p.2) (ha : t0.all ns) (hc : t0.get cnt = some (.v (.c (.il .i64 0)))) (hN : n < N) (h0 : J 0 t0 st0 m0)
    (step : ∀ (i : Nat) (t : TL) (st : St) (m : M), i ≤ n → (∀ p ∈ facts, t.get p.1 = some p.2) → (∀ (d : Nat) (x : TV), d < ns → (t.get d).map (fun _ => x) = some x) → t.all ns → t.get cnt = some (.v (.c (.il .i64 (i : Int)))) → J i t st m →
      (x ⟨⟨t, st⟩, []⟩).vc txt m fun r m' => match r.1 with | .normal => i < n ∧ Sets W t r.2.s.tmps ∧ r.2.ds = [] ∧ r.2.s.tmps.get cnt = some (.v (.c (.il .i64 ((i + 1 : Nat) : Int)))) ∧ J (i + 1) r.2.s.tmps r.2.s.st m' | _ => K r m') : (iter x N ⟨⟨t0, st0⟩, []⟩).vc txt m0 K := by
  refine vc_for W facts ns (fun k t st m => ∃ i, k = n - i ∧ i ≤ n ∧ t.get cnt = some (.v (.c (.il .i64 (i : Int)))) ∧ J i t st m) n hW hf ha hN ⟨0, rfl, Nat.zero_le _, hc, h0⟩ ?_
  rintro k t st m h1 h2 h3 ⟨i, rfl, hi, hci, hJ⟩
  refine Tree.vc_monoS ?_ (step i t st m hi h1 h2 h3 hci hJ)
  rintro ⟨e, c⟩ m' h
  cases e with
  | normal => obtain ⟨g0, g1, g2, g3, g4⟩ := h; exact ⟨g1, g2, n - (i + 1), by omega, i + 1, rfl, g0, g3, g4⟩
  | exit id => exact h
  | ret => exact h
inductive PlS where
  | fin (als : List Nat)
  | take (t : Nat) (p : PlS)
  | key (k : Nat) (fl : List Nat) (ok left : Bool) (p : PlS)
  | both (p q : PlS)
  | bad
  deriving Repr
def bothP : List PlS → PlS
  | [] => .bad
  | p :: l => match l with
    | [] => p
    | _ :: _ => .both p (bothP l)
def keyP (ops : Array Oper) (Ws : List Nat) (L : Nat) (als : List Nat) (rec : Nat → List Nat → PlS) (k : Nat) : PlS := match ops[k]? with
  | some o => if edgesOk (setbs L (als.filter (needs o))) o = true then .key k (als.filter (needs o)) (Ws.contains k || Ws.any fun i => L.testBit i) (als.filter fun i => !needs o i).isEmpty (rec (setb (setbs L (als.filter (needs o))) k) (als.filter fun i => !needs o i)) else .bad
  | none => .bad
def okT (ops : Array Oper) (L t : Nat) : Bool := match ops[t]? with
  | some o => edgesOk L o
  | none => false
def planL (ops : Array Oper) (Ws : List Nat) : Nat → Nat → List Nat → List Nat → List Nat → PlS
  | 0, _, _, _, _ => .bad
  | n + 1, L, als, tks, ks => match tks.find? (okT ops L) with
    | some t => .take t (planL ops Ws n (setb L t) als (tks.filter (· != t)) ks)
    | none => match ks with
      | [] => if tks.isEmpty = true then .fin als else .bad
      | _ :: _ => bothP ((cands ops L als ks).map fun k => keyP ops Ws L als (fun L' als' => planL ops Ws n L' als' tks (ks.filter (· != k))) k)
def planOf (ops : Array Oper) : PlS :=
  let n := ops.size
  let als := (List.range n).filter (isAl ops)
  let tks := (List.range n).filter (isTk ops als)
  let ks := (List.range n).filter fun i => !als.contains i && !tks.contains i
  planL ops (ks.filter fun k => tks.all fun t => reach ops 8 k t) (2 * n + 4) 0 als tks ks
section
variable (P : Program) (gen : FuncId → Md) (call : CallF) (ops : Array Oper) (h0 : List (Nat × Blk))
def keyK (ok left : Bool) (s1 : ASt) (f : ASt → Tree ASt) (s' : ASt) : Tree ASt := if (ok || heapHas h0 s'.st.heap) && (left || sameIds s'.st.heap s1.st.heap) then f s' else .fail "plan: heap"
def keyG (k : Oper) (left : Bool) (s1 : ASt) (f : ASt → Tree ASt) (g : ASt → Tree ASt) : GR → Tree ASt
  | .yes => if left || calm gen k s1 then (aStep P call k s1).bind f else .fail "plan: calm"
  | .no => g ⟨putT s1.tmps k.dst (.tup []), s1.st⟩
  | _ => .fail "plan: guard"
def takeG (o : Oper) (s : ASt) (f : ASt → Tree ASt) : GR → Tree ASt
  | .yes => (aTake P h0 o s).bind f
  | .no => f ⟨putT s.tmps o.dst (.tup []), s.st⟩
  | _ => .fail "plan: guard"
def isAsk : GR → Bool
  | .ask _ _ _ => true
  | _ => false
def runPl : PlS → ASt → Tree ASt
  | .fin als, s => match flushL P ops als s with
    | some s' => .leaf s'
    | none => .fail "plan: flush"
  | .take t p, s => match ops[t]? with
    | some o => takeG P h0 o s (runPl p) (guardOf ops s.tmps o)
    | none => .fail "plan"
  | .key k fl ok left p, s => match ops[k]? with
    | some o => match isAsk (guardOf ops s.tmps o) with
      | true => .fail "plan: guard"
      | false => match flushL P ops fl s with
        | some s1 => keyG P gen call o left s1 (keyK h0 ok left s1 (runPl p)) (runPl p) (guardOf ops s1.tmps o)
        | none => .fail "plan: flush"
    | none => .fail "plan"
  | .both p q, s => .both (runPl p s) (runPl q s)
  | .bad, _ => .fail "plan: bad"
end
section
variable {gen : FuncId → Md} {call : CallF} {ops : Array Oper} {h0 : List (Nat × Blk)} {txt : Rat → List UInt8}
theorem bothP_vc {K : ASt → M → Prop} {f : Nat → PlS} {g : Nat → Tree ASt} {s : ASt} {m : M} (h : ∀ k, (runPl P gen call ops h0 (f k) s).vc txt m K → (g k).vc txt m K) : ∀ (l : List Nat), (runPl P gen call ops h0 (bothP (l.map f)) s).vc txt m K → (bothL (l.map g)).vc txt m K
  | [], h1 => h1.elim
  | [k], h1 => h k h1
  | k :: j :: l, h1 => ⟨h k h1.1, bothP_vc h (j :: l) h1.2⟩
theorem plan_vc {Ws : List Nat} {K : ASt → M → Prop} : ∀ (n L : Nat) (als tks ks : List Nat) (s : ASt) (m : M), (runPl P gen call ops h0 (planL ops Ws n L als tks ks) s).vc txt m K → (drawL P gen call Ws h0 ops n L als tks ks s).vc txt m K
  | 0, _, _, _, _, _, _, h => h.elim
  | n + 1, L, als, tks, ks, s, m, h => by
    show (match tks.find? (okT ops L) with
      | some t => drawTake P (drawL P gen call Ws h0 ops n) h0 ops L als tks ks s t
      | none => drawNext P gen call (drawL P gen call Ws h0 ops n) Ws h0 ops L als tks ks s).vc txt m K
    unfold planL at h
    split at h
    · rename_i t ht
      unfold drawTake
      unfold runPl at h
      split at h
      · rename_i o ho
        simp only [ho]
        unfold takeG at h
        split at h
        · rename_i hg
          simp only [hg]
          rw [Tree.vc_bind] at h ⊢
          exact Tree.vc_monoS (fun x m' h' => plan_vc n _ _ _ _ _ m' h') h
        · rename_i hg
          simp only [hg]
          exact plan_vc n _ _ _ _ _ m h
        · exact h.elim
      · exact h.elim
    · rename_i ht
      unfold drawNext
      split at h
      · by_cases he : tks.isEmpty = true
        · rw [if_pos he] at h
          simp only [he, if_true]
          unfold runPl at h
          cases e : flushL P ops als s with
          | some s1 => rw [e] at h; exact h
          | none => rw [e] at h; exact h.elim
        · rw [if_neg he] at h
          exact h.elim
      · rename_i k0 ks0
        refine bothP_vc (fun k hk => ?_) _ h
        unfold keyP at hk
        unfold drawOne
        split at hk
        · rename_i o ho
          simp only [ho]
          split at hk
          · rename_i he
            unfold runPl at hk
            simp only [ho] at hk
            split at hk
            · exact hk.elim
            · rename_i hask
              have key : (drawKey P gen call (drawL P gen call Ws h0 ops n) Ws h0 ops L als tks ((k0 :: ks0).filter (· != k)) k o s).vc txt m K := by
                unfold drawKey
                split at hk
                · rename_i s1 hs1
                  simp only [hs1, he, if_true]
                  unfold keyG at hk
                  split at hk
                  · rename_i hg
                    simp only [hg]
                    unfold drawYes
                    split at hk
                    · rename_i hc
                      rw [if_pos (by simpa using hc)]
                      rw [Tree.vc_bind] at hk ⊢
                      refine Tree.vc_monoS (fun s' m' h' => ?_) hk
                      unfold keyK at h'
                      split at h'
                      · rename_i hh
                        rw [if_pos (by unfold hOk; simpa using hh)]
                        exact plan_vc n _ _ _ _ _ m' h'
                      · exact h'.elim
                    · exact hk.elim
                  · rename_i hg
                    simp only [hg]
                    exact plan_vc n _ _ _ _ _ m hk
                  · exact hk.elim
                · exact hk.elim
              generalize guardOf ops s.tmps o = gr at hask ⊢
              cases gr with
              | ask d i w => cases hask
              | yes => exact key
              | no => exact key
              | bad => exact key
          · exact hk.elim
        · exact hk.elim
end
def formOk (P : Program) (ops : Array Oper) : Bool := P.follows .mixedOrders && Region.noSelect ops && ssaOk ops && ((List.range ops.size).filter (isAl ops)).all (alKnown P ops) && noDefer ops
def heap0 (ops : Array Oper) (s : ASt) : List (Nat × Blk) := s.st.heap.filter fun p => (loadedIn ops.toList s.tmps ++ namedIn s.st.heap (loadedIn ops.toList s.tmps)).contains p.1
theorem draw_vc {gen : FuncId → Md} {call : CallF} {ops : Array Oper} {txt : Rat → List UInt8} {s : ASt} {m : M} {K : ASt → M → Prop} (p : PlS) (hp : planOf ops = p) (hf : formOk P ops = true) (h : (runPl P gen call ops (heap0 ops s) p s).vc txt m K) : (aDraw P gen call ops s).vc txt m K := by
  unfold formOk at hf
  simp only [Bool.and_eq_true] at hf
  unfold aDraw
  simp only
  rw [if_pos ⟨hf.1.1.1.1, hf.1.1.1.2, hf.1.1.2, hf.1.2⟩]
  exact plan_vc _ _ _ _ _ _ _ (by unfold planOf at hp; rw [hp]; exact h)
theorem code_draw_vc {gen : FuncId → Md} {call : CallF} {yld : YldF} {N : Nat} {rd : Bool} {ops : Array Oper} {txt : Rat → List UInt8} {s : CSt} {m : M} {K : AX × CSt → M → Prop} {id : Nat} (p : PlS) (hp : planOf ops = p) (hf : formOk P ops = true)
    (h : ((runPl P gen call ops (heap0 ops s.s) p s.s).bind (regK s.ds)).vc txt m K) : (aCode P call yld (aDraw P gen call) N rd (.region id ops true) s).vc txt m K := by
  have hd : noDefer ops = true := by unfold formOk at hf; simp only [Bool.and_eq_true] at hf; exact hf.2
  rw [code_draw _ _ _ hd]
  rw [Tree.vc_bind] at h ⊢
  exact draw_vc p hp hf h
theorem look_filter {α : Type} (f : Nat → Bool) : ∀ (h : List (Nat × α)) (b : Nat), f b = true → look (h.filter fun p => f p.1) b = look h b
  | [], _, _ => rfl
  | (j, x) :: h, b, hb => by
    by_cases e : b = j
    · subst e
      simp [hb, look]
    · cases hj : f j with
      | true => simp [hj, look, e, look_filter f h b hb]
      | false => simp [hj, look, e, look_filter f h b hb]
end
end Go.Proofs.VM
namespace Go.Proofs.VM
open Go.RowKit
noncomputable section
variable {T : FT} {w0 : World} {P : Program}
structure Wf (s : St) : Prop where
  all : ∀ p ∈ s.heap, p.1 < s.nb
  nd : (s.heap.map (·.1)).Nodup
theorem Wf.old {s : St} (h : Wf s) : oldOf s.nb s.heap = s.heap := by
  have key : ∀ (l : List (Nat × Blk)), (∀ p ∈ l, p.1 < s.nb) → oldOf s.nb l = l := by
    intro l
    induction l with
    | nil => intro _; rfl
    | cons p l ih =>
      intro h
      simp only [oldOf]
      rw [if_pos (h p (by simp)), ih (fun q hq => h q (by simp [hq]))]
  exact key _ h.all
theorem Wf.lt {s : St} (h : Wf s) {id : Nat} {b : Blk} (hl : look s.heap id = some b) : id < s.nb := h.all _ (by
  have key : ∀ {l : List (Nat × Blk)} {id : Nat} {b : Blk}, look l id = some b → (id, b) ∈ l := by
    intro l
    induction l with
    | nil => intro id b h; cases h
    | cons p l ih =>
      obtain ⟨j, x⟩ := p
      intro id b h
      simp only [VM.look] at h
      split at h
      · rename_i e; cases h; subst e; simp
      · exact List.mem_cons_of_mem _ (ih h)
  exact key hl)
structure Keep (X : List Nat) (s s' : St) : Prop where
  nb : s.nb ≤ s'.nb
  wf : Wf s'
  look : ∀ id b, id ∉ X → VM.look s.heap id = some b → VM.look s'.heap id = some b
  ncl : s.ncl ≤ s'.ncl
  cls : ∀ i x, VM.look s.cls i = some x → VM.look s'.cls i = some x
  lps : s'.lps = s.lps
  rng : s'.rng = s.rng
  nB : s'.nB = s.nB
  nS : s'.nS = s.nS
  fit : s'.fit = s.fit
theorem Keep.refl {s : St} (h : Wf s) : Keep [] s s := ⟨Nat.le_refl _, h, fun _ _ _ e => e, Nat.le_refl _, fun _ _ e => e, rfl, rfl, rfl, rfl, rfl⟩
theorem Keep.trans {X Y : List Nat} {a b c : St} (h : Keep X a b) (k : Keep Y b c) : Keep (X ++ Y) a c :=
  ⟨Nat.le_trans h.nb k.nb, k.wf, fun id bl hn e => k.look id bl (fun h => hn (by simp [h])) (h.look id bl (fun h => hn (by simp [h])) e), Nat.le_trans h.ncl k.ncl, fun i x e => k.cls i x (h.cls i x e), k.lps.trans h.lps, k.rng.trans h.rng, k.nB.trans h.nB, k.nS.trans h.nS, k.fit.trans h.fit⟩
theorem Keep.less {X Y : List Nat} {a b : St} (h : Keep X a b) (ha : Wf a) (hX : ∀ x ∈ X, x ∈ Y ∨ a.nb ≤ x) : Keep Y a b :=
  { h with look := fun id bl hn e => h.look id bl (fun hx => by
      rcases hX id hx with h1 | h1
      · exact hn h1
      · have := ha.lt e; omega) e }
theorem Wf.add {hp : List (Nat × Blk)} {n k : Nat} (h : ∀ p ∈ hp, p.1 < n) (hd : (hp.map (·.1)).Nodup) (hk : n < k) (b : Blk) : (∀ p ∈ (n, b) :: hp, p.1 < k) ∧ (((n, b) :: hp).map (·.1)).Nodup := by
  refine ⟨fun p hp' => ?_, ?_⟩
  · rcases List.mem_cons.1 hp' with rfl | hp'
    · exact hk
    · have := h p hp'; omega
  · rw [List.map_cons, List.nodup_cons]
    refine ⟨fun hm => ?_, hd⟩
    obtain ⟨p, hp', e⟩ := List.mem_map.1 hm
    have := h p hp'
    simp only at e; omega
theorem Wf.new {s : St} (h : Wf s) (t : TypeId) (cs : List CV) : Wf (s.new t cs) := by
  obtain ⟨h1, h2⟩ := Wf.add h.all h.nd (Nat.lt_succ_self s.nb) ⟨true, t, cs, 0⟩
  exact ⟨h1, h2⟩
theorem Wf.at_ {s : St} (h : Wf s) {p : Nat × Blk} (hp : p ∈ s.heap) : VM.look s.heap p.1 = some p.2 := by
  have key : ∀ {l : List (Nat × Blk)}, (l.map (·.1)).Nodup → ∀ {p}, p ∈ l → VM.look l p.1 = some p.2 := by
    intro l
    induction l with
    | nil => intro _ p h; cases h
    | cons q l ih =>
      obtain ⟨j, x⟩ := q
      intro hn p hp
      rw [List.map_cons, List.nodup_cons] at hn
      simp only [VM.look]
      rcases List.mem_cons.1 hp with rfl | hp
      · simp
      · have : ¬ p.1 = j := fun e => hn.1 (List.mem_map.2 ⟨p, hp, e⟩)
        rw [if_neg this]
        exact ih hn.2 hp
  exact key h.nd hp
theorem look_fresh {s : St} (h : Wf s) {id : Nat} (hid : s.nb ≤ id) : VM.look s.heap id = none := by
  cases e : VM.look s.heap id with
  | none => rfl
  | some b => have := h.lt e; omega
theorem Keep.new {s : St} (h : Wf s) (t : TypeId) (cs : List CV) : Keep [] s (s.new t cs) :=
  ⟨Nat.le_succ _, h.new t cs, fun id b _ e => by
    rw [St.new_eq]
    have := h.lt e
    simp only [VM.look]
    rw [if_neg (by omega)]; exact e, Nat.le_refl _, fun _ _ e => e, rfl, rfl, rfl, rfl, rfl⟩
theorem look_new (s : St) (t : TypeId) (cs : List CV) : VM.look (s.new t cs).heap s.nb = some ⟨true, t, cs, 0⟩ := by
  rw [St.new_eq]; simp [VM.look]
theorem nb_new (s : St) (t : TypeId) (cs : List CV) : (s.new t cs).nb = s.nb + 1 := rfl
theorem Keep.drop {X : List Nat} {s s' : St} (h : Keep X s s') (hs : Wf s) : Keep X s (s'.setHeap (oldOf s.nb s'.heap)) := by
  have key : ∀ {l : List (Nat × Blk)} {id : Nat} {b : Blk}, id < s.nb → VM.look l id = some b → VM.look (oldOf s.nb l) id = some b := by
    intro l
    induction l with
    | nil => intro id b _ h; cases h
    | cons p l ih =>
      obtain ⟨j, x⟩ := p
      intro id b hid h
      simp only [VM.look] at h
      simp only [oldOf]
      split at h
      · rename_i e; cases h; subst e
        rw [if_pos hid]; simp [VM.look]
      · rename_i e
        split
        · simp only [VM.look]; rw [if_neg e]; exact ih hid h
        · exact ih hid h
  have mem : ∀ {l : List (Nat × Blk)} {p : Nat × Blk}, p ∈ oldOf s.nb l → p.1 < s.nb := by
    intro l
    induction l with
    | nil => intro p h; cases h
    | cons q l ih =>
      intro p h
      simp only [oldOf] at h
      split at h
      · rename_i e
        rcases List.mem_cons.1 h with rfl | h
        · exact e
        · exact ih h
      · exact ih h
  have sub : ∀ (l : List (Nat × Blk)), List.Sublist (oldOf s.nb l) l := by
    intro l
    induction l with
    | nil => exact List.Sublist.slnil
    | cons q l ih =>
      simp only [oldOf]
      split
      · exact ih.cons_cons q
      · exact ih.cons q
  exact ⟨h.nb, ⟨fun p hp => Nat.lt_of_lt_of_le (mem hp) h.nb, h.wf.nd.sublist ((sub s'.heap).map _)⟩, fun id b hn e => key (hs.lt e) (h.look id b hn e), h.ncl, h.cls, h.lps, h.rng, h.nB, h.nS, h.fit⟩
theorem drop_nb (s' : St) (h : List (Nat × Blk)) : (s'.setHeap h).nb = s'.nb := rfl
structure Own (s : St) (v : CV) (el : TypeId) (k n : Nat) (cs : List CV) : Prop where
  len : cs.length = n * k
  nw : cs.all (·.noW) = true
  form : (v = .nsl ∧ n = 0) ∨ ∃ b, v = .sg b 0 n 0 ∧ VM.look s.heap b = some ⟨true, el, cs, k⟩
def bid : CV → List Nat
  | .sg b _ _ _ => [b]
  | .sc b _ _ _ => [b]
  | .sr b _ _ _ _ => [b]
  | .pt b _ => [b]
  | _ => []
theorem Own.nil (s : St) (el : TypeId) (k : Nat) : Own s .nsl el k 0 [] := ⟨by simp, rfl, .inl ⟨rfl, rfl⟩⟩
theorem Own.vw {s : St} {v : CV} {el : TypeId} {k n : Nat} {cs : List CV} (h : Own s v el k n cs) : Vw s v n k cs := by
  refine ⟨h.len, ?_⟩
  rcases h.form with h1 | ⟨b, rfl, hb⟩
  · exact .inl h1
  · exact .inr ⟨b, 0, _, ⟨.inr ⟨0, rfl⟩, hb⟩, by simp [← h.len]⟩
theorem Own.keep {X : List Nat} {s s' : St} {v : CV} {el : TypeId} {k n : Nat} {cs : List CV} (h : Own s v el k n cs) (hk : Keep X s s') (hx : ∀ b ∈ bid v, b ∉ X) : Own s' v el k n cs := by
  refine ⟨h.len, h.nw, ?_⟩
  rcases h.form with h1 | ⟨b, rfl, hb⟩
  · exact .inl h1
  · exact .inr ⟨b, rfl, hk.look _ _ (hx b (by simp [bid])) hb⟩
theorem Own.lt {s : St} {v : CV} {el : TypeId} {k n : Nat} {cs : List CV} (h : Own s v el k n cs) (hs : Wf s) : ∀ b ∈ bid v, b < s.nb := by
  rcases h.form with ⟨rfl, _⟩ | ⟨b, rfl, hb⟩
  · intro b hb; cases hb
  · intro b' hb'
    have : b' = b := by simpa [bid] using hb'
    subst this; exact hs.lt hb
theorem Vw.keep {X : List Nat} {s s' : St} {v : CV} {n z : Nat} {cs : List CV} (h : Vw s v n z cs) (hk : Keep X s s') (hx : ∀ b ∈ bid v, b ∉ X) : Vw s' v n z cs := by
  refine ⟨h.len, ?_⟩
  rcases h.form with h | ⟨b, off, blk, ⟨hv, hb⟩, hc⟩
  · exact .inl h
  · refine .inr ⟨b, off, blk, ⟨hv, hk.look _ _ (hx b ?_) hb⟩, hc⟩
    rcases hv with ⟨c, rfl⟩ | ⟨d, rfl⟩ <;> simp [bid]
structure Ty (P : Program) (t el : TypeId) (k : Nat) (z : List CV) : Prop where
  und : P.underlying t = some (.slice el)
  size : sizeT P el = some k
  pos : 0 < k
  info : ∃ i v, P.info? el = some i ∧ i.zero = some v ∧ i.size = k ∧ i.bytes ≤ 32768 ∧ ofCells v.cells.toList = some z
  zlen : z.length = k
  znw : z.all (·.noW) = true
theorem look_del_ne {α : Type} : ∀ {l : List (Nat × α)} {i k : Nat} {x : α}, k ≠ i → VM.look l k = some x → VM.look (VM.del l i) k = some x
  | (j, y) :: l, i, k, x, hk, h => by
    simp only [VM.look] at h
    simp only [del]
    split at h
    · rename_i e
      subst e; cases h
      rw [if_neg (fun e => hk e.symm)]; simp [VM.look]
    · rename_i e
      split
      · exact look_del_ne hk h
      · simp only [VM.look]; rw [if_neg e]; exact look_del_ne hk h
theorem mem_del {α : Type} : ∀ {l : List (Nat × α)} {i : Nat} {p : Nat × α}, p ∈ VM.del l i → p ∈ l
  | (j, y) :: l, i, p, h => by
    simp only [del] at h
    split at h
    · exact List.mem_cons_of_mem _ (mem_del h)
    · rcases List.mem_cons.1 h with rfl | h
      · simp
      · exact List.mem_cons_of_mem _ (mem_del h)
theorem srcOf_sc {s : St} {k b off n c : Nat} {blk : Blk} (h : VM.look s.heap b = some blk) (hle : off + n * k ≤ blk.cells.length) : srcOf s k (.sc b off n c) = some ((blk.cells.drop off).take (n * k), n) := by
  simp only [srcOf, h]; rw [if_pos hle]
theorem Own.append {s : St} {v : CV} {t el : TypeId} {k n m : Nat} {cs news z : List CV} (h : Own s v el k n cs) (hs : Wf s) (ty : Ty P t el k z) {y : CV} (hy : srcOf s k y = some (news, m)) (hyn : y ≠ .nsl) (hm0 : 0 < m) (hm : m ≤ 65536) (hnm : n + m ≤ 4294967296) (hl : news.length = m * k) (hnw : news.all (·.noW) = true) :
    ∃ s2, aAppend P s #[t, t] v y = some (.v (.c (.sg s.nb 0 (n + m) 0)), s2) ∧ Own s2 (.sg s.nb 0 (n + m) 0) el k (n + m) (cs ++ news) ∧ Keep (bid v) s s2 ∧ s2.nb = s.nb + 2 := by
  obtain ⟨i, zv, hi, hz, hsz, hb, hoz⟩ := ty.info
  have hbytes : (n + m) * i.bytes ≤ 140737488355328 := by
    have : (n + m) * i.bytes ≤ 4294967296 * 32768 := Nat.mul_le_mul hnm hb
    omega
  have base : ∀ r, appTo s el i.size i.bytes news m v = some r → aAppend P s #[t, t] v y = some r := by
    intro r hr
    unfold aAppend
    simp only [ne_eq, not_true, if_false, ty.und, hi, hz, hoz]
    rw [if_pos ⟨by rw [hsz]; exact ty.zlen, by rw [hsz]; exact ty.pos, ty.znw⟩]
    have hyy : srcOf s i.size y = some (news, m) := by rw [hsz]; exact hy
    cases y <;> first | exact absurd rfl hyn | (simp only [hyy]; rw [if_pos ⟨hm0, hm, by omega, hnw⟩]; exact hr)
  have wfG : ∀ (hp : List (Nat × Blk)) (c : List CV), (∀ p ∈ hp, p.1 < s.nb) → (hp.map (·.1)).Nodup → Wf ((s.setHeap hp).newG el c k) := by
    intro hp c hh hd
    obtain ⟨h1, h2⟩ := Wf.add hh hd (show s.nb < s.nb + 2 by omega) ⟨true, el, c, k⟩
    exact ⟨h1, h2⟩
  have subD : ∀ (l : List (Nat × Blk)) (i : Nat), List.Sublist (VM.del l i) l := by
    intro l i
    induction l with
    | nil => exact List.Sublist.slnil
    | cons q l ih =>
      obtain ⟨j, x⟩ := q
      simp only [VM.del]
      split
      · exact ih.cons _
      · exact ih.cons_cons _
  have own : ∀ (hp : List (Nat × Blk)), Own ((s.setHeap hp).newG el (cs ++ news) k) (.sg s.nb 0 (n + m) 0) el k (n + m) (cs ++ news) := by
    intro hp
    refine ⟨by rw [List.length_append, h.len, hl, Nat.add_mul], by rw [List.all_append, h.nw, hnw]; rfl, .inr ⟨s.nb, rfl, ?_⟩⟩
    rw [St.newG_eq]; simp [VM.look, St.setHeap_eq]
  rcases h.form with ⟨rfl, rfl⟩ | ⟨b, rfl, hbk⟩
  · have hc0 : cs = [] := List.eq_nil_of_length_eq_zero (by rw [h.len]; simp)
    subst hc0
    refine ⟨s.newG el news k, ?_, ?_, ⟨by rw [St.newG_eq]; show s.nb ≤ s.nb + 2; omega, wfG s.heap news hs.all hs.nd, fun id bl _ e => ?_, Nat.le_refl _, fun _ _ e => e, rfl, rfl, rfl, rfl, rfl⟩, rfl⟩
    · refine base _ ?_
      simp only [appTo, hsz, Nat.zero_add]
    · have := own s.heap
      rw [List.nil_append] at this ⊢
      rw [Nat.zero_add] at this ⊢
      exact this
    · rw [St.newG_eq]
      have := hs.lt e
      simp only [VM.look]; rw [if_neg (by omega)]; exact e
  · refine ⟨(s.setHeap (VM.del s.heap b)).newG el (cs ++ news) k, base _ ?_, own _, ⟨by rw [St.newG_eq]; show s.nb ≤ s.nb + 2; omega, wfG _ _ (fun p hp => hs.all p (mem_del hp)) (hs.nd.sublist ((subD _ _).map _)), fun id bl hid e => ?_, Nat.le_refl _, fun _ _ e => e, rfl, rfl, rfl, rfl, rfl⟩, rfl⟩
    · simp only [appTo, hbk, hsz]
      have hlt : Nat.ble ((n + m) * k) cs.length = false := by
        rw [h.len, Bool.eq_false_iff]
        intro hh
        have := Nat.le_of_ble_eq_true hh
        have hp := ty.pos
        have : n * k < (n + m) * k := Nat.mul_lt_mul_of_pos_right (by omega) hp
        omega
      rw [hlt]
      simp only
      rw [if_pos ⟨trivial, trivial, trivial, h.len, hbytes, hnm, h.nw⟩]
    · rw [St.newG_eq]
      have h1 := hs.lt e
      have hid : id ≠ b := fun e2 => hid (by simp [bid, e2])
      simp only [VM.look]
      rw [if_neg (by show ¬ id = s.nb; omega)]
      exact look_del_ne hid e
theorem Own.push {s : St} {v : CV} {t el : TypeId} {k n : Nat} {cs news z : List CV} (h : Own s v el k n cs) (hs : Wf s) (ty : Ty P t el k z) (hn : n < 4294967296) (hl : news.length = k) (hnw : news.all (·.noW) = true) :
    ∃ s2, aAppend P (s.new el news) #[t, t] v (.sc s.nb 0 1 1) = some (.v (.c (.sg (s.nb + 1) 0 (n + 1) 0)), s2) ∧ Own s2 (.sg (s.nb + 1) 0 (n + 1) 0) el k (n + 1) (cs ++ news) ∧ Keep (bid v) s s2 ∧ s2.nb = s.nb + 3 := by
  have h1 : Own (s.new el news) v el k n cs := h.keep (Keep.new hs el news) (fun _ _ h => by cases h)
  obtain ⟨s2, e1, e2, e3, e4⟩ := h1.append (m := 1) (y := .sc s.nb 0 1 1) (hs.new el news) ty (news := news) (by
    rw [srcOf_sc (look_new s el news) (by simp [hl])]; simp [← hl]) (by simp) (by omega) (by omega) (by omega) (by omega) hnw
  exact ⟨s2, e1, e2, by simpa using (Keep.new hs el news).trans e3, e4⟩
theorem Wf.self {s : St} (h : Wf s) : s.setHeap (oldOf s.nb s.heap) = s := by rw [h.old]; rfl
def tyOk (P : Program) (t el : TypeId) (k : Nat) (z : List CV) : Bool := (match P.underlying t with
    | some (.slice e) => e == el
    | _ => false) && decide (sizeT P el = some k) && decide (0 < k) && (match P.info? el with
    | some i => match i.zero with
      | some v => decide (i.size = k) && decide (i.bytes ≤ 32768) && decide (ofCells v.cells.toList = some z)
      | none => false
    | none => false) && decide (z.length = k) && z.all (·.noW)
theorem Ty.of {t el : TypeId} {k : Nat} {z : List CV} (h : tyOk P t el k z = true) : Ty P t el k z := by
  unfold tyOk at h
  simp only [Bool.and_eq_true, decide_eq_true_eq] at h
  obtain ⟨⟨⟨⟨⟨h1, h2⟩, h3⟩, h4⟩, h5⟩, h6⟩ := h
  refine ⟨?_, h2, h3, ?_, h5, h6⟩
  · split at h1
    · rename_i e he; rw [he]; simp at h1; rw [h1]
    · cases h1
  · split at h4
    · rename_i i hi
      split at h4
      · rename_i v hv
        simp only [Bool.and_eq_true, decide_eq_true_eq] at h4
        exact ⟨i, v, hi, hv, h4.1.1, h4.1.2, h4.2⟩
      · cases h4
    · cases h4
theorem aLoad_at_heap {s : St} {H : List (Nat × Blk)} {b : Nat} (h : VM.look H b = VM.look s.heap b) (t : TypeId) (o : Nat) : aLoad P (s.setHeap H) t (.pt b o) = aLoad P s t (.pt b o) := by
  simp only [aLoad, St.setHeap_eq, h]
def loadAt (ops : List Oper) (j : Nat) : Option Nat := match ops[j]? with
  | some o => match o.op with
    | .load _ (.tmp x) => some (baseOf ops 6 x)
    | _ => none
  | none => none
theorem heap0_look {ops : Array Oper} {s : ASt} {v : CV} {b : Nat} (j d : Nat) (hj : loadAt ops.toList j = some d) (hg : s.tmps.get d = some (.v (.c v))) (hb : b ∈ bid v) : VM.look (heap0 ops s) b = VM.look s.st.heap b := by
  unfold heap0
  refine look_filter (fun b => (loadedIn ops.toList s.tmps ++ namedIn s.st.heap (loadedIn ops.toList s.tmps)).contains b) _ _ ?_
  simp only [List.contains_iff_mem, List.mem_append]
  refine .inl ?_
  unfold loadAt at hj
  split at hj
  · rename_i o ho
    unfold loadedIn
    refine List.mem_filterMap.2 ⟨o, List.mem_of_getElem? ho, ?_⟩
    split at hj
    · rename_i t x hop
      cases hj
      rw [hop]
      simp only [hg]
      cases v <;> simp [bid] at hb <;> simp [hb]
    · cases hj
  · cases hj
theorem Ints.bid {s : St} {v : CV} {k : IntKind} {zs : List Int} (h : Ints s v k zs) (hn : 0 < zs.length) : ∃ b, VM.bid v = [b] := by
  rcases h.form with ⟨_, h0⟩ | ⟨b, off, blk, ⟨⟨c, rfl⟩ | ⟨d, rfl⟩, _⟩, _⟩
  · omega
  · exact ⟨b, rfl⟩
  · exact ⟨b, rfl⟩
theorem Ints.at2 {s : St} {v : CV} {k : IntKind} {zs : List Int} (h : Ints s v k zs) {t el : TypeId} (hu : P.underlying t = some (.slice el)) (hz : sizeT P el = some 1) (hr : rowT P el = some false) (hn : 0 < zs.length) :
    ∃ b off, VM.bid v = [b] ∧ (∀ (ki : IntKind) (i : Nat), i < zs.length → aIndexAddr P t v (.il ki (i : Int)) = some (.pt b (off + i))) ∧ (∀ i (hi : i < zs.length), aLoad P s el (.pt b (off + i)) = some (.c (.il k zs[i]))) := by
  rcases h.form with ⟨_, h0⟩ | ⟨b, off, blk, ⟨hv, hb⟩, hc⟩
  · omega
  · have hbid : VM.bid v = [b] := by rcases hv with ⟨c, rfl⟩ | ⟨d, rfl⟩ <;> rfl
    refine ⟨b, off, hbid, fun ki i hi => ?_, fun i hi => ?_⟩
    · rcases hv with ⟨c, rfl⟩ | ⟨d, rfl⟩
      · simp only [aIndexAddr, hu, hz]; rw [if_pos (by omega)]; simp
      · simp only [aIndexAddr, hu, hz]; rw [if_pos (by omega)]; simp
    · have h2 := ints_get k zs i hi
      rw [← hc, List.getElem?_take, if_pos (by omega), List.getElem?_drop] at h2
      simp only [aLoad, hb, hr, h2]
      rfl
theorem isV_c (x : CV) : (TV.v (.c x)).isV = x.isV := rfl
theorem isV_agg (l : List CV) : (TV.v (.agg l)).isV = l.all (·.isV) := rfl
theorem isV_nil : (TV.tup []).isV = true := rfl
theorem isV_cons (a : AV) (l : List AV) : (TV.tup (a :: l)).isV = (a.isV && (TV.tup l).isV) := rfl
theorem isA_c (x : CV) : (AV.c x).isV = x.isV := rfl
theorem isA_agg (l : List CV) : (AV.agg l).isV = l.all (·.isV) := rfl
theorem isC_il (k : IntKind) (n : Int) : (CV.il k n).isV = true := rfl
theorem isC_bl (b : Bool) : (CV.bl b).isV = true := rfl
theorem isC_sl (l : List UInt8) : (CV.sl l).isV = true := rfl
theorem isC_nsl : CV.nsl.isV = true := rfl
theorem isC_sg (b o n d : Nat) : (CV.sg b o n d).isV = false := rfl
theorem isC_sc (b o n d : Nat) : (CV.sc b o n d).isV = false := rfl
theorem isC_pt (b o : Nat) : (CV.pt b o).isV = false := rfl
theorem isC_npt : CV.npt.isV = true := rfl
theorem isC_fc (i j : Nat) : (CV.fc i j).isV = true := rfl
theorem ite_vc {α : Type} {txt : Rat → List UInt8} {b : Bool} {x y : Tree α} {m : M} {K : α → M → Prop} (h1 : b = true → x.vc txt m K) (h2 : b = false → y.vc txt m K) : (if b = true then x else y).vc txt m K := by
  cases b
  · exact h2 rfl
  · exact h1 rfl
theorem Own.drop {s : St} {v : CV} {el : TypeId} {k n : Nat} {cs : List CV} (h : VM.Own s v el k n cs) (hv : v.isV = true) (s' : St) : VM.Own s' v el k n cs := by
  refine ⟨h.len, h.nw, ?_⟩
  rcases h.form with h1 | ⟨b, rfl, _⟩
  · exact .inl h1
  · cases hv
theorem Keep.has {s s' : St} (h : Keep [] s s') (hs : Wf s) (ops : Array Oper) (t : TL) : heapHas (heap0 ops ⟨t, s⟩) s'.heap = true := by
  unfold heapHas heap0
  rw [List.all_eq_true]
  intro p hp
  have := (List.mem_filter.1 hp).1
  simp only [decide_eq_true_eq]
  exact h.look _ _ (fun h => nomatch h) (hs.at_ this)
theorem ints_append (k : IntKind) (a b : List Int) : ints k (a ++ b) = ints k a ++ ints k b := List.map_append
theorem ints_one (k : IntKind) (a : Int) : ints k [a] = [.il k a] := rfl
theorem ints_take (k : IntKind) (zs : List Int) (i : Nat) (h : i < zs.length) : ints k (zs.take (i + 1)) = ints k (zs.take i) ++ [.il k zs[i]] := by
  rw [List.take_succ_eq_append_getElem h, ints_append, ints_one]
theorem vc_abs {txt : Rat → List UInt8} {c : Run} {t : TL} {st : St} {ds : List Nat} {m : M} {K : AX × CSt → M → Prop} (facts : List (Nat × TV)) (n : Nat) (hf : ∀ p ∈ facts, t.get p.1 = some p.2) (ha : t.all n)
    (h : ∀ t' : TL, (∀ p ∈ facts, t'.get p.1 = some p.2) → (∀ (d : Nat) (x : TV), d < n → (t'.get d).map (fun _ => x) = some x) → t'.all n → (c ⟨⟨t', st⟩, ds⟩).vc txt m K) : (c ⟨⟨t, st⟩, ds⟩).vc txt m K := h t hf ha.map ha
end
end Go.Proofs.VM
namespace Go.Proofs.VM
open Go.RowKit Go.ChangeShapes Go.WideShapes
noncomputable section
variable {T : FT} {w0 : World} {P : Program}
def envS (bl : List (Nat × Nat)) : Env := ⟨⟨[], [], [], []⟩, fun id => bl[id]?, fun _ => none, fun _ => none⟩
def blkS : Nat → List (Option (List CV)) → List (Nat × Blk)
  | _, [] => []
  | i, none :: l => blkS (i + 1) l
  | i, some c :: l => (i, ⟨false, 0, c, 0⟩) :: blkS (i + 1) l
def stS (bs : List (Option (List CV))) : St := ⟨.nil, 0, 0, .nil, bs.length, blkS 0 bs, 0, [], []⟩
theorem look_blkS : ∀ {bs : List (Option (List CV))} {i id : Nat} {b : Blk}, look (blkS i bs) id = some b → i ≤ id ∧ ∃ cs, bs[id - i]? = some (some cs) ∧ b = ⟨false, 0, cs, 0⟩
  | [], _, _, _, h => nomatch h
  | none :: l, i, id, b, h => by
    obtain ⟨h1, c, h2, h3⟩ := look_blkS (bs := l) (i := i + 1) h
    refine ⟨by omega, c, ?_, h3⟩
    rw [show id - i = (id - (i + 1)) + 1 by omega]
    simpa using h2
  | some c :: l, i, id, b, h => by
    unfold blkS look at h
    split at h
    · rename_i e
      subst e
      cases h
      exact ⟨Nat.le_refl _, c, by simp, rfl⟩
    · obtain ⟨h1, c, h2, h3⟩ := look_blkS h
      refine ⟨by omega, c, ?_, h3⟩
      rw [show id - i = (id - (i + 1)) + 1 by omega]
      simpa using h2
theorem look_blkS_of : ∀ {bs : List (Option (List CV))} {i j : Nat} {cs : List CV}, bs[j]? = some (some cs) → look (blkS i bs) (i + j) = some ⟨false, 0, cs, 0⟩
  | [], _, _, _, h => by simp at h
  | none :: l, i, j, cs, h => by
    cases j with
    | zero => simp at h
    | succ j =>
      have := look_blkS_of (bs := l) (i := i + 1) (j := j) (cs := cs) (by simpa using h)
      rw [show i + 1 + j = i + (j + 1) by omega] at this
      exact this
  | some c :: l, i, j, cs, h => by
    cases j with
    | zero =>
      have h : c = cs := by simpa using h
      subst h
      simp [blkS, look]
    | succ j =>
      have := look_blkS_of (bs := l) (i := i + 1) (j := j) (cs := cs) (by simpa using h)
      rw [show i + 1 + j = i + (j + 1) by omega] at this
      unfold blkS look
      rw [if_neg (by omega)]
      exact this
theorem blkS_ids : ∀ (bs : List (Option (List CV))) (i : Nat), (∀ p ∈ blkS i bs, i ≤ p.1 ∧ p.1 < i + bs.length) ∧ ((blkS i bs).map (·.1)).Nodup
  | [], i => ⟨(fun _ h => nomatch h), List.nodup_nil⟩
  | none :: l, i => by
    obtain ⟨h1, h2⟩ := blkS_ids l (i + 1)
    exact ⟨fun p hp => by obtain ⟨a, b⟩ := h1 p hp; rw [List.length_cons]; omega, h2⟩
  | some c :: l, i => by
    obtain ⟨h1, h2⟩ := blkS_ids l (i + 1)
    refine ⟨fun p hp => ?_, ?_⟩
    · rcases List.mem_cons.1 hp with rfl | hp
      · simp
      · obtain ⟨a, b⟩ := h1 p hp; rw [List.length_cons]; omega
    · unfold blkS
      rw [List.map_cons, List.nodup_cons]
      refine ⟨fun h => ?_, h2⟩
      obtain ⟨p, hp, e⟩ := List.mem_map.1 h
      have := (h1 p hp).1
      simp only at e
      omega
theorem Wf.stS (bs : List (Option (List CV))) : Wf (stS bs) := ⟨fun p hp => by have := ((blkS_ids bs 0).1 p hp).2; rwa [Nat.zero_add] at this, (blkS_ids bs 0).2⟩
theorem SRel.startS {w : World} (hE : T.E w) {bs : List (Option (List CV))} {bl : List (Nat × Nat)} (hlen : bl.length = bs.length)
    (hb : ∀ (i : Nat) cs, bs[i]? = some (some cs) → ∃ g o vs, bl[i]? = some (g, o) ∧ w.rangeAt g o vs ∧ All2 (CRel (envS bl)) cs vs ∧ g < w.heap.size) : SRel T w (envS bl) (stS bs) w :=
  have hown : ∀ id b, look (blkS 0 bs) id = some b → b.own = false := fun id b e => by obtain ⟨_, c, _, rfl⟩ := look_blkS e; rfl
  ⟨{ nI := rfl, nB := rfl, nS := rfl, nQ := rfl, rng := fun i lo hi n e => (by simp [envS] at *), fit := fun i k q e => (nomatch e),
     frac := fun i t e => (by cases e),
     fresh := fun id hid => (by
       show bl[id]? = none
       have hid : bs.length ≤ id := hid
       exact List.getElem?_eq_none (by omega)),
     freshF := fun _ _ => rfl, freshC := fun _ _ => rfl,
     cls := fun i f caps e => (nomatch (show (none : Option (FuncId × List CV)) = some (f, caps) from e)),
     oneC := fun i v e => (by cases e) },
   { below := Below.refl _ _, env := hE,
     heap := fun id b e => (by
       obtain ⟨_, cs, h1, rfl⟩ := look_blkS e
       obtain ⟨g, o, vs, h2, h3, h4, h5⟩ := hb id cs (by simpa using h1)
       exact ⟨fun ho => (by cases ho), fun _ => ⟨g, o, vs, h2, h3, h4, h5⟩⟩),
     inj := fun i j bi bj g hi hj oi oj _ _ => (by have := hown i bi hi; rw [this] at oi; cases oi) }, LRel.nil _ _ _⟩
def ilz : List IntKind → List Int → List CV
  | k :: ks, n :: ns => .il k n :: ilz ks ns
  | _, _ => []
abbrev InK (ks : List IntKind) (ns : List Int) : Prop := All2 (fun (k : IntKind) (n : Int) => k.min ≤ n ∧ n ≤ k.max) ks ns
theorem ilz_rel {ρ : Env} : ∀ {ks : List IntKind} {cs : List Value}, All2 IntOf ks cs → ∃ ns : List Int, InK ks ns ∧ ∀ ρ, All2 (CRel ρ) (ilz ks ns) cs
  | [], [], _ => ⟨[], trivial, fun _ => trivial⟩
  | k :: ks, v :: cs, ⟨⟨n, hv, hw⟩, h⟩ => by
    obtain ⟨ns, h1, h2⟩ := ilz_rel (ρ := ρ) h
    exact ⟨n :: ns, ⟨wf_range hw, h1⟩, fun ρ => ⟨hv, h2 ρ⟩⟩
theorem ilz_ints {k : IntKind} : ∀ {n : Nat} {ns : List Int}, InK (rep [k] n) ns → ns.length = n ∧ ilz (rep [k] n) ns = ints k ns ∧ ∀ z ∈ ns, k.min ≤ z ∧ z ≤ k.max
  | 0, [], _ => ⟨rfl, rfl, fun _ h => nomatch h⟩
  | n + 1, z :: ns, ⟨h1, h2⟩ => by
    obtain ⟨g1, g2, g3⟩ := ilz_ints (n := n) h2
    refine ⟨by simp [g1], ?_, fun x hx => ?_⟩
    · show CV.il k z :: ilz (rep [k] n) ns = _
      rw [g2]; rfl
    · rcases List.mem_cons.1 hx with rfl | hx
      · exact h1
      · exact g3 x hx
def Par.ok (p : Par) (j : Nat) (av : AV) (b : List (Option (List CV))) : Prop := match p with
  | .num (.one k) => b = [] ∧ ∃ n, (k.min ≤ n ∧ n ≤ k.max) ∧ av = .c (.il k n)
  | .num (.row ks) => b = [] ∧ ∃ ns, InK ks ns ∧ av = .agg (ilz ks ns)
  | .sl ks _ => (av = .c .nsl ∧ b = [none]) ∨ ∃ n c ns, n ≤ c ∧ c ≤ 9223372036854775807 ∧ InK (rep ks n) ns ∧ av = .c (.sc j 0 n c) ∧ b = [some (ilz (rep ks n) ns)]
def Par.nB : Par → Nat
  | .num _ => 0
  | .sl _ _ => 1
def ArgsOk : List Par → Nat → List AV → List (Option (List CV)) → Prop
  | [], _, avs, bs => avs = [] ∧ bs = []
  | p :: l, j, avs, bs => ∃ a as b bs', avs = a :: as ∧ bs = b ++ bs' ∧ p.ok j a b ∧ ArgsOk l (j + p.nB) as bs'
section
variable {H : Type} {enc : TypeId × Value → H} {w : World} {base : Nat} {spare : Nat → Bool} {held : Bool}
theorem slice_isS {r : Reach} {b0 : Nat} {t e : TypeId} {ks : List IntKind} {v : Value} {d : DataW H} {ps : List MemPlace} (ht : P.underlying t = some (.slice e)) (hk : kindsOf P 5 e = some ks) (hz : ks.length = P.cellsOf e)
    (hval : Value.okWide P w r b0 t v) (hd : DataW.Trod enc P w base spare held t v d ps) : v = .slice none 0 0 ∨ ∃ n g o c us, v = .slice (some ⟨g, o, none⟩) n c ∧ n ≤ c ∧ c ≤ 9223372036854775807 ∧ All2 IntOf (rep ks n) us ∧ w.rangeAt g o us ∧ g < w.heap.size := by
  rcases okWide_slice ht hval with rfl | ⟨g, o, n, c, rfl, h1, h2, h3⟩
  · exact .inl rfl
  · obtain ⟨a, ha, h | h | ⟨m, hm, h⟩⟩ := slice_isV ht hk hz hval hd (n + 1)
    · subst h; cases ha
    · subst h
      obtain ⟨g', o', m, c', e, h4, _⟩ := ha
      cases e
      omega
    · subst h
      obtain ⟨g', o', c', us, e, _, _, h4, h5, _⟩ := ha
      cases e
      exact .inr ⟨_, g, o, c, us, rfl, h1, h2, h4, h5, h3⟩
theorem par_isS {r : Reach} {b0 : Nat} {N : Nat} {t : TypeId} {p : Par} {v : Value} {d : DataW H} {ps : List MemPlace} (hp : parOf P N t = some p)
    (hval : Value.okWide P w r b0 t v) (hd : DataW.Trod enc P w base spare held t v d ps) : ∀ j, ∃ av b bl, p.ok j av b ∧ b.length = p.nB ∧ bl.length = p.nB ∧ ∀ ρ, AtB ρ j bl → ARel ρ av v ∧ ∀ (k : Nat) cs, b[k]? = some (some cs) → ∃ g o vs, bl[k]? = some (g, o) ∧ w.rangeAt g o vs ∧ All2 (CRel ρ) cs vs ∧ g < w.heap.size := by
  intro j
  unfold parOf at hp
  split at hp
  · rename_i e ht
    split at hp
    · rename_i ks hk
      split at hp
      · rename_i hz
        cases hp
        rcases slice_isS ht hk (Nat.eq_of_beq_eq_true hz) hval hd with rfl | ⟨n, g, o, c, us, rfl, h1, h2, h3, h4, h5⟩
        · exact ⟨.c .nsl, [none], [(0, 0)], .inl ⟨rfl, rfl⟩, rfl, rfl, fun ρ _ => ⟨rfl, fun k cs e => by cases k <;> simp at e⟩⟩
        · obtain ⟨ns, g1, g2⟩ := ilz_rel (ρ := envS []) h3
          refine ⟨.c (.sc j 0 n c), [some (ilz (rep ks n) ns)], [(g, o)], .inr ⟨n, c, ns, h1, h2, g1, rfl, rfl⟩, rfl, rfl, fun ρ hA => ⟨⟨g, o, hA 0 _ rfl, rfl⟩, fun k cs e => ?_⟩⟩
          cases k with
          | zero =>
            have e : ilz (rep ks n) ns = cs := by simpa using e
            subst e
            exact ⟨g, o, us, rfl, h4, g2 ρ, h5⟩
          | succ k => simp at e
      · cases hp
    · cases hp
  · obtain ⟨a, ha, rfl⟩ := Option.map_eq_some_iff.1 hp
    have := arg_isV ha hval hd
    cases a with
    | one k =>
      obtain ⟨n, rfl, hw⟩ := this
      exact ⟨.c (.il k n), [], [], ⟨rfl, n, wf_range hw, rfl⟩, rfl, rfl, fun ρ _ => ⟨rfl, fun k cs e => by simp at e⟩⟩
    | row ks =>
      obtain ⟨cs, rfl, hc⟩ := this
      obtain ⟨ns, g1, g2⟩ := ilz_rel (ρ := envS []) hc
      exact ⟨.agg (ilz ks ns), [], [], ⟨rfl, ns, g1, rfl⟩, rfl, rfl, fun ρ _ => ⟨⟨cs.toList, by simp, g2 ρ⟩, fun k cs e => by simp at e⟩⟩
theorem pars_isS {r : Reach} {b0 : Nat} : ∀ {Ns : List Nat} {ts : List TypeId} {pl : List Par} {vs : List Value} {ds : List (DataW H)} {ps : List MemPlace}, parsOf P Ns ts = some pl →
    (∀ (j : Nat) t v, ts[j]? = some t → vs[j]? = some v → Value.okWide P w r b0 t v) → DataW.TrodAll enc P w base spare held ts vs ds ps → ∀ j, ∃ avs bs bl, ArgsOk pl j avs bs ∧ bl.length = bs.length ∧
      ∀ ρ, AtB ρ j bl → All2 (ARel ρ) avs vs ∧ ∀ (k : Nat) cs, bs[k]? = some (some cs) → ∃ g o us, bl[k]? = some (g, o) ∧ w.rangeAt g o us ∧ All2 (CRel ρ) cs us ∧ g < w.heap.size
  | _, [], pl, vs, ds, ps, hp, _, hA => by
    intro j
    unfold parsOf at hp
    cases hp
    obtain ⟨rfl, _, _⟩ := trodAll_nil hA
    exact ⟨[], [], [], ⟨rfl, rfl⟩, rfl, fun ρ _ => ⟨trivial, fun k cs e => by simp at e⟩⟩
  | [], _ :: _, _, _, _, _, hp, _, _ => by cases hp
  | N :: Ns, t :: ts, pl, vs, ds, ps, hp, hval, hA => by
    intro j
    unfold parsOf at hp
    split at hp
    · rename_i p l h1 h2
      cases hp
      obtain ⟨v, vs1, d, ds1, p', q, rfl, rfl, rfl, h3, h4⟩ := trodAll_cons hA
      obtain ⟨av, b, bl, g1, g2, g3, g4⟩ := par_isS h1 (hval 0 t v rfl rfl) h3 j
      obtain ⟨avs, bs, bl2, k1, k2, k3⟩ := pars_isS h2 (fun j t v e1 e2 => hval (j + 1) t v e1 e2) h4 (j + p.nB)
      refine ⟨av :: avs, b ++ bs, bl ++ bl2, ⟨av, avs, b, bs, rfl, rfl, g1, k1⟩, by simp [g2, g3, k2], fun ρ hA => ?_⟩
      obtain ⟨hA1, hA2⟩ := hA.app
      rw [g3] at hA2
      obtain ⟨p1, p2⟩ := g4 ρ hA1
      obtain ⟨q1, q2⟩ := k3 ρ hA2
      refine ⟨⟨p1, q1⟩, fun k cs e => ?_⟩
      by_cases hk : k < b.length
      · rw [List.getElem?_append_left hk] at e
        obtain ⟨g, o, us, r1, r2⟩ := p2 k cs e
        exact ⟨g, o, us, by rw [List.getElem?_append_left (by omega)]; exact r1, r2⟩
      · rw [List.getElem?_append_right (by omega)] at e
        obtain ⟨g, o, us, r1, r2⟩ := q2 _ cs e
        exact ⟨g, o, us, by rw [List.getElem?_append_right (by omega), show bl.length = b.length by omega]; exact r1, r2⟩
    · cases hp
end
theorem Par.ints {k : IntKind} {N j : Nat} {av : AV} {b : List (Option (List CV))} (h : (Par.sl [k] N).ok j av b) {bs : List (Option (List CV))} (hb : ∀ x, b = [x] → bs[j]? = some x) :
    ∃ v zs, av = .c v ∧ Ints (stS bs) v k zs ∧ ((∀ z ∈ zs, k.min ≤ z ∧ z ≤ k.max) ∧ zs.length ≤ 9223372036854775807) := by
  rcases h with ⟨rfl, rfl⟩ | ⟨n, c, ns, h1, h2, h3, rfl, rfl⟩
  · exact ⟨.nsl, [], rfl, ⟨rfl, .inl ⟨rfl, rfl⟩⟩, (fun _ h => nomatch h), by decide⟩
  · obtain ⟨g1, g2, g3⟩ := ilz_ints h3
    have hl := look_blkS_of (bs := bs) (i := 0) (hb _ rfl)
    rw [Nat.zero_add] at hl
    refine ⟨_, ns, rfl, ⟨by rw [ints_length, Nat.mul_one], .inr ⟨j, 0, _, ⟨.inl ⟨c, by rw [g1]⟩, hl⟩, ?_⟩⟩, g3, by omega⟩
    simp only [List.drop_zero]
    rw [g2, Nat.mul_one]
    exact List.take_of_length_le (by rw [ints_length]; exact Nat.le_refl _)
theorem yes_ofS {gen : FuncId → Md} {call : CallF} (hc : COk T P gen call) {f : FuncId} {avs : List AV} {vs : List Value} {w : World} {ρ : Env} {s : St} (H : SRel T w ρ s w) (hav : All2 (ARel ρ) avs vs)
    (hK : (call f avs s).vc T.txt ρ.m fun r _ => r.1 = .v (.c (.bl true))) : Calls P f vs.toArray w fun e w' => e = .returned (.bool true) ∧ Below w.heap.size w w' :=
  yes_of hc H hav (Tree.vc_monoS (fun r m h => by obtain ⟨a, b⟩ := r; cases h; exact rfl) hK)
end
end Go.Proofs.VM
