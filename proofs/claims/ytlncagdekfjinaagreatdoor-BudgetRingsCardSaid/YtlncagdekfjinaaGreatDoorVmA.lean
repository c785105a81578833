/- A machine that runs a function over numbers known only by how they were made: values, memory, operations, and that it is right. -/
import Derived.Below
import Derived.Deep.MidRow
import Derived.LoopN
import Derived.Orders
import Derived.Calls
import Derived.Laws.Strings
import Derived.Laws.Build
import Derived.Laws.StructEq
import Derived.RangeFuncRecord
import Derived.Laws.AppendOwn
import Derived.Lib.AppendZeros
import Derived.ChangeKeysEq
namespace Go.Proofs.VM
open Go.RowKit
noncomputable section
structure M where
  I : List Int
  B : List Bool
  S : List (List UInt8)
  Q : List Rat
def M.le (m m' : M) : Prop := (∀ (i : Nat) (x : Int), m.I[i]? = some x → m'.I[i]? = some x) ∧ (∀ (i : Nat) (x : Bool), m.B[i]? = some x → m'.B[i]? = some x) ∧ (∀ (i : Nat) (x : List UInt8), m.S[i]? = some x → m'.S[i]? = some x) ∧ (∀ (i : Nat) (x : Rat), m.Q[i]? = some x → m'.Q[i]? = some x)
theorem M.le.refl (m : M) : m.le m := ⟨fun _ _ h => h, fun _ _ h => h, fun _ _ h => h, fun _ _ h => h⟩
theorem M.le.trans {a b c : M} (h : a.le b) (k : b.le c) : a.le c :=
  ⟨fun i x e => k.1 i x (h.1 i x e), fun i x e => k.2.1 i x (h.2.1 i x e), fun i x e => k.2.2.1 i x (h.2.2.1 i x e), fun i x e => k.2.2.2 i x (h.2.2.2 i x e)⟩
theorem getElem?_snoc {α : Type} (l : List α) (y : α) (i : Nat) (x : α) (h : l[i]? = some x) : (l ++ [y])[i]? = some x := by
  rw [List.getElem?_append_left]; exact h
  exact (List.getElem?_eq_some_iff.1 h).1
def M.pushI (m : M) (n : Int) : M := { m with I := m.I ++ [n] }
def M.pushB (m : M) (n : Bool) : M := { m with B := m.B ++ [n] }
def M.pushS (m : M) (n : List UInt8) : M := { m with S := m.S ++ [n] }
def M.pushQ (m : M) (n : Rat) : M := { m with Q := m.Q ++ [n] }
theorem M.le_pushI (m : M) (n : Int) : m.le (m.pushI n) := ⟨fun i x h => getElem?_snoc _ _ i x h, fun _ _ h => h, fun _ _ h => h, fun _ _ h => h⟩
theorem M.le_pushB (m : M) (n : Bool) : m.le (m.pushB n) := ⟨fun _ _ h => h, fun i x h => getElem?_snoc _ _ i x h, fun _ _ h => h, fun _ _ h => h⟩
theorem M.le_pushS (m : M) (n : List UInt8) : m.le (m.pushS n) := ⟨fun _ _ h => h, fun _ _ h => h, fun i x h => getElem?_snoc _ _ i x h, fun _ _ h => h⟩
theorem M.le_pushQ (m : M) (n : Rat) : m.le (m.pushQ n) := ⟨fun _ _ h => h, fun _ _ h => h, fun _ _ h => h, fun i x h => getElem?_snoc _ _ i x h⟩
inductive IA where
  | l (n : Int)
  | v (i : Nat)
def IA.ev (m : M) : IA → Int
  | .l n => n
  | .v i => m.I.getD i 0
inductive SA where
  | l (s : List UInt8)
  | v (i : Nat)
def SA.ev (m : M) : SA → List UInt8
  | .l n => n
  | .v i => m.S.getD i []
def M.q (m : M) (i : Nat) : Rat := m.Q.getD i 0
def M.b (m : M) (i : Nat) : Bool := m.B.getD i false
def sgnQ (x : Rat) : Int := if x.num < 0 then -1 else if 0 < x.num then 1 else 0
def cmpR (x y : Rat) : Int := if x < y then -1 else if y < x then 1 else 0
def sumR : List Rat → Rat
  | [] => 0
  | q :: l => q + sumR l
def SB : Nat := 600
def QB : Nat := 2432
def nlB (n : Nat) : Nat := match n with
  | 0 => 0
  | k + 1 => Nat.log2 (k + 1) / 64 + 1
def nbB (n : Nat) : Nat := match n with
  | 0 => 0
  | k + 1 => Nat.log2 (k + 1) + 1
inductive BA where
  | l (b : Bool)
  | v (i : Nat)
def BA.ev (m : M) : BA → Bool
  | .l b => b
  | .v i => m.b i
def M.nat (m : M) (p : Nat) : Nat := (m.q p).num.natAbs
inductive ID where
  | add (a b : IA) | sub (a b : IA) | mul (a b : IA) | quo (a b : IA) | rem (a b : IA)
  | sign (q : Nat) | cmp (p q : Nat)
  | max (a b : IA) | min (a b : IA)
  | wrap (k : IntKind) (a : IA)
  | gcd (a b : IA)
  | nlen (p : Nat) | nbits (p : Nat) | nrem (p d : Nat)
def ID.ev (m : M) : ID → Int
  | .add a b => a.ev m + b.ev m
  | .sub a b => a.ev m - b.ev m
  | .mul a b => a.ev m * b.ev m
  | .quo a b => (a.ev m).tdiv (b.ev m)
  | .rem a b => (a.ev m).tmod (b.ev m)
  | .sign q => sgnQ (m.q q)
  | .cmp p q => cmpR (m.q p) (m.q q)
  | .max a b => if a.ev m < b.ev m then b.ev m else a.ev m
  | .min a b => if b.ev m < a.ev m then b.ev m else a.ev m
  | .wrap k a => k.wrap (a.ev m)
  | .gcd a b => ((a.ev m).gcd (b.ev m) : Nat)
  | .nlen p => (nlB (m.nat p) : Nat)
  | .nbits p => (nbB (m.nat p) : Nat)
  | .nrem p d => (m.nat p % d : Nat)
inductive BD where
  | lt (a b : IA) | le (a b : IA) | eq (a b : IA) | ne (a b : IA)
  | eqs (l : List (IA × IA)) | nes (l : List (IA × IA)) | lts (l : List (IA × IA))
  | not (i : Nat)
  | zero (q : Nat) | same (p q : Nat) | tiny (q : Nat)
  | seq (s t : SA) | sne (s t : SA)
  | neg (p : Nat) | qle (p q : Nat) | pos (p : Nat) | sfit (a b : SA) | shrFits (p : Nat) (a : IA) | qfit (p : Nat) | qsm (p : Nat)
def BD.ev (m : M) : BD → Bool
  | .lt a b => decide (a.ev m < b.ev m)
  | .le a b => decide (a.ev m ≤ b.ev m)
  | .eq a b => decide (a.ev m = b.ev m)
  | .ne a b => !decide (a.ev m = b.ev m)
  | .eqs l => l.all fun p => decide (p.1.ev m = p.2.ev m)
  | .nes l => !(l.all fun p => decide (p.1.ev m = p.2.ev m))
  | .lts l => l.all fun p => decide (p.1.ev m < p.2.ev m)
  | .not i => !(m.b i)
  | .zero q => decide (m.q q = 0)
  | .same p q => decide (m.q p = m.q q)
  | .tiny q => decide ((m.q q).num.natAbs < 100) && decide ((m.q q).den < 100)
  | .seq s t => decide (s.ev m = t.ev m)
  | .sne s t => !decide (s.ev m = t.ev m)
  | .neg p => decide ((m.q p).num < 0)
  | .qle p q => decide (m.nat p ≤ m.nat q)
  | .pos p => decide (0 < m.nat p)
  | .shrFits p a => decide (m.nat p / 2 ^ (a.ev m).toNat < 2 ^ SB)
  | .qfit p => decide ((m.q p).num.natAbs < 2 ^ QB) && decide ((m.q p).den < 2 ^ QB)
  | .qsm p => decide ((m.q p).num.natAbs < 2 ^ 64) && decide ((m.q p).den < 2 ^ 64)
  | .sfit a b => decide ((a.ev m).length + (b.ev m).length ≤ 1048576)
inductive QD where
  | int (a : IA) | frac (a b : IA)
  | add (p q : Nat) | sub (p q : Nat) | mul (p q : Nat) | div (p q : Nat)
  | neg (p : Nat) | abs (p : Nat) | inv (p : Nat)
  | zero | sum (l : List Nat) | of (a b : IA)
  | top (p : Nat) | den (p : Nat) | nadd (p q : Nat) | nsub (p q : Nat) | nmul (p q : Nat) | ndiv (p q : Nat) | nmod (p q : Nat) | ndivC (p d : Nat)
  | shl (p : Nat) (a : IA) | shr (p : Nat) (a : IA) | bin (s : BA) (p k : Nat)
def pos1 (d : Int) : Int := if d < 1 then 1 else d
def natQ (n : Nat) : Rat := ((n : Int) : Rat)
def QD.ev (m : M) : QD → Rat
  | .int a => (a.ev m : Rat)
  | .frac a b => (a.ev m : Rat) / (b.ev m : Rat)
  | .add p q => m.q p + m.q q
  | .sub p q => m.q p - m.q q
  | .mul p q => m.q p * m.q q
  | .div p q => m.q p / m.q q
  | .neg p => - m.q p
  | .abs p => if (m.q p).num < 0 then - m.q p else m.q p
  | .inv p => (m.q p)⁻¹
  | .zero => 0
  | .of a b => (a.ev m : Rat) / ((pos1 (b.ev m) : Int) : Rat)
  | .sum l => sumR (l.map m.q)
  | .top p => natQ (m.nat p)
  | .den p => natQ (m.q p).den
  | .nadd p q => natQ (m.nat p + m.nat q)
  | .nsub p q => natQ (m.nat p - m.nat q)
  | .nmul p q => natQ (m.nat p * m.nat q)
  | .ndiv p q => natQ (m.nat p / m.nat q)
  | .nmod p q => natQ (m.nat p % m.nat q)
  | .ndivC p d => natQ (m.nat p / d)
  | .shl p a => natQ (m.nat p * 2 ^ (a.ev m).toNat)
  | .shr p a => natQ (m.nat p / 2 ^ (a.ev m).toNat)
  | .bin s p k => ((if s.ev m = true then -(m.nat p : Int) else (m.nat p : Int) : Int) : Rat) / (((2 ^ k : Nat) : Int) : Rat)
inductive SD where
  | txt (q : Nat) | cat (a b : SA)
def SD.ev (txt : Rat → List UInt8) (m : M) : SD → List UInt8
  | .txt q => txt (m.q q)
  | .cat a b => a.ev m ++ b.ev m
inductive Tree (α : Type) where
  | leaf (x : α)
  | letI (d : ID) (t : Tree α)
  | letB (d : BD) (t : Tree α)
  | letS (d : SD) (t : Tree α)
  | letQ (d : QD) (t : Tree α)
  | ifB (i : Nat) (t f : Tree α)
  | need (d : BD) (t : Tree α)
  | fail (why : String)
  | both (t f : Tree α)
def Tree.vc {α : Type} (txt : Rat → List UInt8) : Tree α → M → (α → M → Prop) → Prop
  | .leaf x, m, K => K x m
  | .letI d t, m, K => ∀ n, n = d.ev m → t.vc txt (m.pushI n) K
  | .letB d t, m, K => ∀ n, n = d.ev m → t.vc txt (m.pushB n) K
  | .letS d t, m, K => ∀ n, n = d.ev txt m → t.vc txt (m.pushS n) K
  | .letQ d t, m, K => ∀ n, n = d.ev m → t.vc txt (m.pushQ n) K
  | .ifB i t f, m, K => (m.b i = true → t.vc txt m K) ∧ (m.b i = false → f.vc txt m K)
  | .need d t, m, K => d.ev m = true ∧ t.vc txt m K
  | .fail _, _, _ => False
  | .both t f, m, K => t.vc txt m K ∧ f.vc txt m K
def Tree.bind {α β : Type} (t : Tree α) (f : α → Tree β) : Tree β :=
  Tree.rec (motive := fun _ => Tree β) f (fun d _ x => .letI d x) (fun d _ x => .letB d x) (fun q _ x => .letS q x) (fun d _ x => .letQ d x) (fun i _ _ x y => .ifB i x y) (fun d _ x => .need d x) (fun why => .fail why) (fun _ _ x y => .both x y) t
theorem Tree.vc_bind {α β : Type} {txt : Rat → List UInt8} {f : α → Tree β} {K : β → M → Prop} : ∀ (t : Tree α) (m : M), (t.bind f).vc txt m K ↔ t.vc txt m (fun x m' => (f x).vc txt m' K)
  | .leaf _, _ => Iff.rfl
  | .letI _ t, _ => forall_congr' fun _ => imp_congr_right fun _ => vc_bind t _
  | .letB _ t, _ => forall_congr' fun _ => imp_congr_right fun _ => vc_bind t _
  | .letS _ t, _ => forall_congr' fun _ => imp_congr_right fun _ => vc_bind t _
  | .letQ _ t, _ => forall_congr' fun _ => imp_congr_right fun _ => vc_bind t _
  | .ifB _ t e, _ => and_congr (imp_congr_right fun _ => vc_bind t _) (imp_congr_right fun _ => vc_bind e _)
  | .need _ t, _ => and_congr Iff.rfl (vc_bind t _)
  | .fail _, _ => Iff.rfl
  | .both t e, _ => and_congr (vc_bind t _) (vc_bind e _)
inductive CV where
  | bl (b : Bool) | bv (i : Nat)
  | il (k : IntKind) (n : Int) | iv (k : IntKind) (i : Nat)
  | sl (s : List UInt8) | sv (i : Nat)
  | pt (b off : Nat) | npt | nfn
  | sc (b off n c : Nat) | nsl
  | sr (b off n i d : Nat) | su (b i : Nat) | sg (b off n d : Nat)
  | fc (i j : Nat)
  | fn (f : FuncId) | cl (i : Nat)
  | fl (k : FloatKind) (b : Nat) | cx (k : FloatKind) (r i : Nat)
  deriving DecidableEq
inductive AV where
  | c (x : CV)
  | agg (l : List CV)
inductive TV where
  | v (a : AV)
  | tup (l : List AV)
  | ifc (t : TypeId) (a : AV)
structure Env where
  m : M
  blk : Nat → Option (Nat × Nat)
  F : Nat → Option (Value × Value × Value)
  C : Nat → Option Value
def Env.le (ρ ρ' : Env) : Prop := ρ.m.le ρ'.m ∧ (∀ i x, ρ.blk i = some x → ρ'.blk i = some x) ∧ (∀ i x, ρ.F i = some x → ρ'.F i = some x) ∧ (∀ i x, ρ.C i = some x → ρ'.C i = some x)
theorem Env.le.refl (ρ : Env) : ρ.le ρ := ⟨.refl _, fun _ _ h => h, fun _ _ h => h, fun _ _ h => h⟩
theorem Env.le.trans {a b c : Env} (h : a.le b) (k : b.le c) : a.le c :=
  ⟨h.1.trans k.1, fun i x e => k.2.1 i x (h.2.1 i x e), fun i x e => k.2.2.1 i x (h.2.2.1 i x e), fun i x e => k.2.2.2 i x (h.2.2.2 i x e)⟩
def nth3 (t : Value × Value × Value) : Nat → Value
  | 0 => t.1
  | 1 => t.2.1
  | _ => t.2.2
def CRel (ρ : Env) : CV → Value → Prop
  | .bl b, v => v = .bool b
  | .bv i, v => ∃ b, ρ.m.B[i]? = some b ∧ v = .bool b
  | .il k n, v => v = .int k n
  | .iv k i, v => ∃ n, ρ.m.I[i]? = some n ∧ v = .int k n
  | .sl s, v => v = .string ⟨s.toArray⟩
  | .sv i, v => ∃ s, ρ.m.S[i]? = some s ∧ v = .string ⟨s.toArray⟩
  | .pt b off, v => ∃ g o, ρ.blk b = some (g, o) ∧ v = .pointer (some ⟨g, o + off, none⟩)
  | .npt, v => v = .pointer none
  | .nfn, v => v = .nilFunc
  | .sc b off n c, v => ∃ g o, ρ.blk b = some (g, o) ∧ v = .slice (some ⟨g, o + off, none⟩) n c
  | .nsl, v => v = .slice none 0 0
  | .sr b off n i d, v => ∃ g o k, ρ.blk b = some (g, o) ∧ ρ.m.I[i]? = some k ∧ n + d ≤ k.toNat ∧ v = .slice (some ⟨g, o + off, none⟩) n (k.toNat - d)
  | .sg b off n d, v => ∃ g o c z, ρ.blk b = some (g, o) ∧ ρ.blk (b + 1) = some (c, z) ∧ n + d ≤ c ∧ v = .slice (some ⟨g, o + off, none⟩) n (c - d)
  | .su b i, v => ∃ g o n k, ρ.blk b = some (g, o) ∧ ρ.m.I[i]? = some n ∧ ρ.m.I[i + 1]? = some k ∧ 0 ≤ n ∧ v = .slice (some ⟨g, o, none⟩) n.toNat k.toNat
  | .fc i j, v => ∃ t, ρ.F i = some t ∧ v = nth3 t j
  | .fn f, v => v = .func (.func f) #[] #[]
  | .cl i, v => ρ.C i = some v
  | .fl k b, v => v = .float k b
  | .cx k r i, v => v = .complex k r i
theorem CRel.mono {ρ ρ' : Env} (h : ρ.le ρ') : ∀ {x : CV} {v : Value}, CRel ρ x v → CRel ρ' x v
  | .bl _, _, e => e
  | .bv _, _, ⟨b, e, f⟩ => ⟨b, h.1.2.1 _ _ e, f⟩
  | .il _ _, _, e => e
  | .iv _ _, _, ⟨n, e, f⟩ => ⟨n, h.1.1 _ _ e, f⟩
  | .sl _, _, e => e
  | .sv _, _, ⟨n, e, f⟩ => ⟨n, h.1.2.2.1 _ _ e, f⟩
  | .pt _ _, _, ⟨g, o, e, f⟩ => ⟨g, o, h.2.1 _ _ e, f⟩
  | .npt, _, e => e
  | .nfn, _, e => e
  | .sc _ _ _ _, _, ⟨g, o, e, f⟩ => ⟨g, o, h.2.1 _ _ e, f⟩
  | .nsl, _, e => e
  | .sr _ _ _ _ _, _, ⟨g, o, k, e, e1, f⟩ => ⟨g, o, k, h.2.1 _ _ e, h.1.1 _ _ e1, f⟩
  | .sg _ _ _ _, _, ⟨g, o, c, z, e, e1, f⟩ => ⟨g, o, c, z, h.2.1 _ _ e, h.2.1 _ _ e1, f⟩
  | .su _ _, _, ⟨g, o, n, k, e, e1, e2, f⟩ => ⟨g, o, n, k, h.2.1 _ _ e, h.1.1 _ _ e1, h.1.1 _ _ e2, f⟩
  | .fc _ _, _, ⟨t, e, f⟩ => ⟨t, h.2.2.1 _ _ e, f⟩
  | .fn _, _, e => e
  | .cl _, _, e => h.2.2.2 _ _ e
  | .fl _ _, _, e => e
  | .cx _ _ _, _, e => e
def All2 {α β : Type} (R : α → β → Prop) : List α → List β → Prop
  | [], [] => True
  | x :: l, y :: k => R x y ∧ All2 R l k
  | _, _ => False
theorem All2.mono {α β : Type} {R S : α → β → Prop} (h : ∀ x y, R x y → S x y) : ∀ {l : List α} {k : List β}, All2 R l k → All2 S l k
  | [], [], _ => trivial
  | _ :: _, _ :: _, ⟨a, b⟩ => ⟨h _ _ a, All2.mono h b⟩
theorem All2.length {α β : Type} {R : α → β → Prop} : ∀ {l : List α} {k : List β}, All2 R l k → l.length = k.length
  | [], [], _ => rfl
  | _ :: _, _ :: _, ⟨_, b⟩ => by simp [All2.length b]
theorem All2.get {α β : Type} {R : α → β → Prop} : ∀ {l : List α} {k : List β}, All2 R l k → ∀ {i : Nat} {x : α}, l[i]? = some x → ∃ y, k[i]? = some y ∧ R x y
  | _ :: _, y :: _, ⟨a, _⟩, 0, x, e => ⟨y, rfl, by simp at e; exact e ▸ a⟩
  | _ :: _, _ :: _, ⟨_, b⟩, i + 1, x, e => by simpa using All2.get b (i := i) (x := x) (by simpa using e)
  | [], [], _, i, x, e => by simp at e
theorem All2.set {α β : Type} {R : α → β → Prop} {x : α} {y : β} (h : R x y) : ∀ {l : List α} {k : List β}, All2 R l k → ∀ (i : Nat), All2 R (l.set i x) (k.set i y)
  | [], [], _, _ => trivial
  | _ :: _, _ :: _, ⟨_, b⟩, 0 => ⟨h, b⟩
  | _ :: _, _ :: _, ⟨a, b⟩, i + 1 => ⟨a, All2.set h b i⟩
theorem All2.drop {α β : Type} {R : α → β → Prop} : ∀ {l : List α} {k : List β}, All2 R l k → ∀ (n : Nat), All2 R (l.drop n) (k.drop n)
  | [], [], _, n => by simp [All2]
  | _ :: _, _ :: _, h, 0 => h
  | _ :: _, _ :: _, ⟨_, b⟩, n + 1 => by simpa using All2.drop b n
theorem All2.take {α β : Type} {R : α → β → Prop} : ∀ {l : List α} {k : List β}, All2 R l k → ∀ (n : Nat), All2 R (l.take n) (k.take n)
  | [], [], _, n => by simp [All2]
  | _ :: _, _ :: _, _, 0 => trivial
  | _ :: _, _ :: _, ⟨a, b⟩, n + 1 => ⟨a, All2.take b n⟩
theorem All2.append {α β : Type} {R : α → β → Prop} {l2 : List α} {k2 : List β} (h2 : All2 R l2 k2) : ∀ {l : List α} {k : List β}, All2 R l k → All2 R (l ++ l2) (k ++ k2)
  | [], [], _ => h2
  | _ :: _, _ :: _, ⟨a, b⟩ => ⟨a, All2.append h2 b⟩
theorem All2.replicate {α β : Type} {R : α → β → Prop} {x : α} {y : β} (h : R x y) : ∀ n, All2 R (List.replicate n x) (List.replicate n y)
  | 0 => trivial
  | n + 1 => ⟨h, All2.replicate h n⟩
theorem All2.ex {α β : Type} {R : α → β → Prop} : ∀ (l : List α), (∀ x ∈ l, ∃ y, R x y) → ∃ k, All2 R l k
  | [], _ => ⟨[], trivial⟩
  | x :: l, h => by
    obtain ⟨y, hy⟩ := h x (by simp)
    obtain ⟨k, hk⟩ := All2.ex l (fun z hz => h z (by simp [hz]))
    exact ⟨y :: k, hy, hk⟩
def ARel (ρ : Env) : AV → Value → Prop
  | .c x, v => CRel ρ x v
  | .agg l, v => ∃ vs, v = .agg vs.toArray ∧ All2 (CRel ρ) l vs
theorem ARel.mono {ρ ρ' : Env} (h : ρ.le ρ') : ∀ {x : AV} {v : Value}, ARel ρ x v → ARel ρ' x v
  | .c _, _, e => CRel.mono h e
  | .agg _, _, ⟨vs, e, f⟩ => ⟨vs, e, f.mono fun _ _ => CRel.mono h⟩
def TRel (ρ : Env) : TV → Value → Prop
  | .v a, v => ARel ρ a v
  | .tup l, v => ∃ vs, v = .tuple vs.toArray ∧ All2 (ARel ρ) l vs
  | .ifc t a, v => ∃ u, v = .iface t u ∧ ARel ρ a u
theorem TRel.mono {ρ ρ' : Env} (h : ρ.le ρ') : ∀ {x : TV} {v : Value}, TRel ρ x v → TRel ρ' x v
  | .v _, _, e => ARel.mono h e
  | .tup _, _, ⟨vs, e, f⟩ => ⟨vs, e, f.mono fun _ _ => ARel.mono h⟩
  | .ifc _ _, _, ⟨u, e, f⟩ => ⟨u, e, ARel.mono h f⟩
theorem TRel.undef (ρ : Env) : TRel ρ (.tup []) undef := ⟨[], rfl, trivial⟩
structure Sq (α : Type) where
  n : Nat
  l : List α
def Sq.nil {α : Type} : Sq α := ⟨0, []⟩
def Sq.push {α : Type} (q : Sq α) (x : α) : Sq α := Sq.rec (motive := fun _ => Sq α) (fun n l => ⟨n + 1, x :: l⟩) q
def Sq.get {α : Type} (q : Sq α) (i : Nat) : Option α := match Nat.blt i q.n with
  | true => q.l[q.n - 1 - i]?
  | false => none
def Sq.ofList {α : Type} : Sq α → List α → Sq α
  | q, [] => q
  | q, x :: l => Sq.ofList (q.push x) l
theorem Sq.get_lt {α : Type} {q : Sq α} {i : Nat} {x : α} (h : q.get i = some x) : i < q.n := by
  unfold Sq.get at h
  split at h
  · rename_i e; simpa [Nat.blt_eq] using e
  · cases h
theorem Sq.get_push {α : Type} {q : Sq α} {x y : α} {i : Nat} (h : (q.push x).get i = some y) : (i < q.n ∧ q.get i = some y) ∨ (i = q.n ∧ x = y) := by
  have hi : i < q.n + 1 := Sq.get_lt h
  unfold Sq.get at h
  split at h
  · by_cases e : i = q.n
    · subst e
      have h : (x :: q.l)[q.n + 1 - 1 - q.n]? = some y := h
      rw [show q.n + 1 - 1 - q.n = 0 by omega] at h
      simp at h
      exact .inr ⟨rfl, h⟩
    · have hlt : i < q.n := by omega
      have h : (x :: q.l)[q.n + 1 - 1 - i]? = some y := h
      rw [show q.n + 1 - 1 - i = (q.n - 1 - i) + 1 by omega] at h
      refine .inl ⟨hlt, ?_⟩
      unfold Sq.get
      have : Nat.blt i q.n = true := by simpa [Nat.blt_eq] using hlt
      rw [this]
      simpa using h
  · cases h
theorem Sq.n_ofList {α : Type} : ∀ (l : List α) (q : Sq α), (Sq.ofList q l).n = q.n + l.length
  | [], q => rfl
  | x :: l, q => by
    show (Sq.ofList (q.push x) l).n = _
    rw [Sq.n_ofList l]
    show q.n + 1 + l.length = q.n + (l.length + 1)
    omega
theorem Sq.get_ofList {α : Type} : ∀ (l : List α) (q : Sq α) {i : Nat} {y : α}, (Sq.ofList q l).get i = some y → (i < q.n ∧ q.get i = some y) ∨ (q.n ≤ i ∧ l[i - q.n]? = some y)
  | [], q, i, y, h => .inl ⟨Sq.get_lt h, h⟩
  | x :: l, q, i, y, h => by
    rcases Sq.get_ofList l (q.push x) h with ⟨h1, h2⟩ | ⟨h1, h2⟩
    · rcases Sq.get_push h2 with h | ⟨rfl, rfl⟩
      · exact .inl h
      · exact .inr ⟨Nat.le_refl _, by simp⟩
    · have h1 : q.n + 1 ≤ i := h1
      have h2 : l[i - (q.n + 1)]? = some y := h2
      refine .inr ⟨by omega, ?_⟩
      rw [show i - q.n = (i - (q.n + 1)) + 1 by omega]
      simpa using h2
inductive Tr (α : Type) where
  | nil
  | node (v : α) (l r : Tr α)
def Tr.get {α : Type} (t : Tr α) : Nat → Option α :=
  Tr.rec (motive := fun _ => Nat → Option α) (fun _ => none) (fun v _ _ gl gr i => Nat.rec (motive := fun _ => Option α) (some v) (fun k _ => Nat.rec (motive := fun _ => Option α) (gl (k / 2)) (fun _ _ => gr (k / 2)) (k % 2)) i) t
def Tr.set {α : Type} (t : Tr α) : Nat → α → Tr α :=
  Tr.rec (motive := fun _ => Nat → α → Tr α) (fun _ _ => .nil) (fun v l r sl sr i x => Nat.rec (motive := fun _ => Tr α) (.node x l r) (fun k _ => Nat.rec (motive := fun _ => Tr α) (.node v (sl (k / 2) x) r) (fun _ _ => .node v l (sr (k / 2) x)) (k % 2)) i) t
theorem Tr.get_succ {α : Type} (v : α) (l r : Tr α) (k : Nat) : (Tr.node v l r).get (k + 1) = (match k % 2 with | 0 => l.get (k / 2) | _ + 1 => r.get (k / 2)) := by
  show Nat.rec (motive := fun _ => Option α) (l.get (k / 2)) (fun _ _ => r.get (k / 2)) (k % 2) = _
  cases k % 2 <;> rfl
theorem Tr.set_succ {α : Type} (v : α) (l r : Tr α) (k : Nat) (x : α) : (Tr.node v l r).set (k + 1) x = (match k % 2 with | 0 => .node v (l.set (k / 2) x) r | _ + 1 => .node v l (r.set (k / 2) x)) := by
  show Nat.rec (motive := fun _ => Tr α) (.node v (l.set (k / 2) x) r) (fun _ _ => .node v l (r.set (k / 2) x)) (k % 2) = _
  cases k % 2 <;> rfl
def Tr.full {α : Type} (x : α) : Nat → Nat → Tr α
  | 0, _ => .nil
  | f + 1, n => match n with
    | 0 => .nil
    | n + 1 => .node x (Tr.full x f ((n + 1) / 2)) (Tr.full x f (n / 2))
theorem Tr.get_full {α : Type} {x y : α} : ∀ {f n i : Nat}, (Tr.full x f n).get i = some y → i < n ∧ y = x
  | 0, _, _, h => nomatch h
  | f + 1, 0, i, h => nomatch h
  | f + 1, n + 1, i, h => by
    have h : (Tr.node x (Tr.full x f ((n + 1) / 2)) (Tr.full x f (n / 2))).get i = some y := h
    cases i with
    | zero => cases h; exact ⟨by omega, rfl⟩
    | succ k =>
      rw [Tr.get_succ] at h
      split at h
      · rename_i e
        obtain ⟨h1, h2⟩ := Tr.get_full h
        exact ⟨by omega, h2⟩
      · rename_i e
        obtain ⟨h1, h2⟩ := Tr.get_full h
        exact ⟨by omega, h2⟩
theorem Tr.get_set {α : Type} {x y : α} : ∀ {t : Tr α} {d i : Nat}, (t.set d x).get i = some y → (i = d ∧ y = x ∧ ∃ z, t.get d = some z) ∨ (i ≠ d ∧ t.get i = some y)
  | .nil, _, _, h => nomatch h
  | .node v l r, 0, 0, h => by cases h; exact .inl ⟨rfl, rfl, v, rfl⟩
  | .node v l r, 0, k + 1, h => .inr ⟨by omega, h⟩
  | .node v l r, j + 1, 0, h => .inr ⟨by omega, by
      rw [Tr.set_succ] at h
      split at h <;> exact h⟩
  | .node v l r, j + 1, k + 1, h => by
    have hjk : (j / 2 = k / 2 ∧ j % 2 = k % 2) ↔ j = k := by omega
    rw [Tr.set_succ] at h
    rw [Tr.get_succ, Tr.get_succ]
    show (_ ∧ _ ∧ ∃ z, (match j % 2 with | 0 => l.get (j / 2) | _ + 1 => r.get (j / 2)) = some z) ∨ (_ ∧ (match k % 2 with | 0 => l.get (k / 2) | _ + 1 => r.get (k / 2)) = some y)
    split at h
    · rename_i ej
      rw [Tr.get_succ] at h
      have h : (match k % 2 with | 0 => (l.set (j / 2) x).get (k / 2) | _ + 1 => r.get (k / 2)) = some y := h
      split at h
      · rename_i ek
        rcases Tr.get_set h with ⟨h1, h2, z, h3⟩ | ⟨h1, h2⟩
        · exact .inl ⟨by omega, h2, z, h3⟩
        · exact .inr ⟨by omega, h2⟩
      · rename_i m ek
        exact .inr ⟨by omega, h⟩
    · rename_i m ej
      rw [Tr.get_succ] at h
      have h : (match k % 2 with | 0 => l.get (k / 2) | _ + 1 => (r.set (j / 2) x).get (k / 2)) = some y := h
      split at h
      · rename_i ek
        exact .inr ⟨by omega, h⟩
      · rename_i m2 ek
        rcases Tr.get_set h with ⟨h1, h2, z, h3⟩ | ⟨h1, h2⟩
        · exact .inl ⟨by omega, h2, z, h3⟩
        · exact .inr ⟨by omega, h2⟩
abbrev TL := Tr TV
def TL.sets : TL → Nat → List AV → TL
  | t, _, [] => t
  | t, i, a :: l => TL.sets (t.set i (.v a)) (i + 1) l
def TL.start (n : Nat) (avs : List AV) : TL := TL.sets (Tr.full (.tup []) n n) 0 avs
structure TmR (ρ : Env) (t : TL) (l : List Value) : Prop where
  at_ : ∀ (i : Nat) (v : TV), t.get i = some v → ∃ u, l[i]? = some u ∧ TRel ρ v u
theorem TmR.get {ρ : Env} {t : TL} {l : List Value} (h : TmR ρ t l) {i : Nat} {v : TV} (e : t.get i = some v) : ∃ u, l[i]? = some u ∧ TRel ρ v u := h.at_ i v e
theorem TmR.mono {ρ ρ' : Env} {t : TL} {l : List Value} (hρ : ρ.le ρ') (h : TmR ρ t l) : TmR ρ' t l := ⟨fun i v e => by
  obtain ⟨u, h1, h2⟩ := h.at_ i v e
  exact ⟨u, h1, TRel.mono hρ h2⟩⟩
theorem TmR.set {ρ : Env} {t : TL} {l : List Value} (h : TmR ρ t l) {x : TV} {y : Value} (hx : TRel ρ x y) (d : Nat) : TmR ρ (t.set d x) (l.set d y) := by
  refine ⟨fun i v e => ?_⟩
  rcases Tr.get_set e with ⟨rfl, rfl, z, hz⟩ | ⟨hne, h2⟩
  · obtain ⟨u, h3, _⟩ := h.at_ i z hz
    have hlt := (List.getElem?_eq_some_iff.1 h3).1
    exact ⟨y, by rw [List.getElem?_set]; simp [hlt], hx⟩
  · obtain ⟨u, h3, h4⟩ := h.at_ i v h2
    exact ⟨u, by rw [List.getElem?_set, if_neg (fun e => hne e.symm)]; exact h3, h4⟩
theorem TmR.same {ρ : Env} {t : TL} {k : List Value} (h : TmR ρ t k) {d : Nat} {x : TV} {y : Value} (hy : k[d]? = some y) (hx : TRel ρ x y) : TmR ρ (t.set d x) k := by
  have := h.set hx d
  have e : k.set d y = k := by
    apply List.ext_getElem? ; intro i
    rw [List.getElem?_set]
    split
    · rename_i hi; subst hi; split
      · exact hy.symm
      · rename_i hl; rw [List.getElem?_eq_none (by omega)] at hy; cases hy
    · rfl
  rwa [e] at this
theorem TmR.full {ρ : Env} (n f : Nat) : TmR ρ (Tr.full (.tup []) f n) (List.replicate n undef) := by
  refine ⟨fun i v e => ?_⟩
  obtain ⟨hi, hv⟩ := Tr.get_full e
  subst hv
  exact ⟨undef, by rw [List.getElem?_replicate, if_pos hi], TRel.undef ρ⟩
theorem TmR.sets {ρ : Env} : ∀ {avs : List AV} {vs : List Value} {t : TL} {pre : List Value} {m : Nat}, All2 (ARel ρ) avs vs → TmR ρ t (pre ++ List.replicate (vs.length + m) undef) → TmR ρ (TL.sets t pre.length avs) (pre ++ vs ++ List.replicate m undef)
  | [], [], t, pre, m, _, h => by
    show TmR ρ t _
    simpa using h
  | a :: avs, v :: vs, t, pre, m, ⟨ha, hr⟩, h => by
    have h1 := h.set (x := .v a) (y := v) ha pre.length
    have e : (pre ++ List.replicate ((v :: vs).length + m) undef).set pre.length v = (pre ++ [v]) ++ List.replicate (vs.length + m) undef := by
      rw [show (v :: vs).length + m = (vs.length + m) + 1 by simp; omega, List.replicate_succ]
      simp
    rw [e] at h1
    have h2 := TmR.sets (pre := pre ++ [v]) hr h1
    rw [show (pre ++ [v]).length = pre.length + 1 by simp] at h2
    show TmR ρ (TL.sets (t.set pre.length (TV.v a)) (pre.length + 1) avs) _
    simpa using h2
theorem TmR.start {ρ : Env} {avs : List AV} {vs : List Value} (h : All2 (ARel ρ) avs vs) (m : Nat) : TmR ρ (TL.start (avs.length + m) avs) (vs ++ List.replicate m undef) := by
  have := TmR.sets (pre := []) (m := m) h (t := Tr.full (.tup []) (avs.length + m) (avs.length + m)) (by
    rw [← All2.length h]; exact TmR.full _ _)
  show TmR ρ (TL.sets _ 0 avs) _
  simpa using this
end
end Go.Proofs.VM
namespace Go.Proofs.VM
open Go.RowKit
noncomputable section
def Fits (k : Nat) (q : Rat) : Prop := q.num.natAbs < 2 ^ k ∧ q.den < 2 ^ k
def NoW (cs : List Value) : Prop := ∀ v ∈ cs, ∀ n, v ≠ .int .u64 n ∧ v ≠ .int .u32 n
def RK : Nat := 3000
theorem RK_gt {k : Nat} (h : k ≤ 2432) : k < RK := Nat.lt_of_le_of_lt h (by decide)
def Fits' (k : Nat) (q : Rat) : Prop := if k < RK then Fits k q else Fits (k - RK) q
theorem fits_lt {k : Nat} {q : Rat} (h : Fits' k q) (hk : k ≤ 2432) : Fits k q := by
  unfold Fits' at h; rw [if_pos (RK_gt hk)] at h; exact h
theorem fits_lt' {k : Nat} {q : Rat} (h : Fits k q) (hk : k ≤ 2432) : Fits' k q := by
  unfold Fits'; rw [if_pos (RK_gt hk)]; exact h
def NoWB (w : World) (g : Nat) : Prop := ∀ (i : Nat) (v : Value), w.cell? ⟨g, i, none⟩ = some v → ∀ n, v ≠ .int .u64 n ∧ v ≠ .int .u32 n
theorem NoWB.cells {w : World} {g : Nat} {cs : Array Value} {t : TypeId} {k : Nat × Nat} (h : w.heap[g]? = some (.cells cs t k)) (hn : NoW cs.toList) : NoWB w g := fun i v e => by
  simp only [World.cell?, h] at e
  exact hn v (List.mem_of_getElem? (by rw [Array.getElem?_toList]; exact e))
theorem NoWB.loop {w : World} {g : Nat} {r : Loop} (h : w.heap[g]? = some (.loop r)) : NoWB w g := fun i v e => by
  simp only [World.cell?, h] at e
  cases e
theorem NoWB.deferred {w : World} {g : Nat} {r : Option (List Deferred)} (h : w.heap[g]? = some (.deferred r)) : NoWB w g := fun i v e => by
  simp only [World.cell?, h] at e
  cases e
structure FT where
  FA : World → Value → Rat → Prop
  E : World → Prop
  mono : ∀ {w w' : World} {v : Value} {q : Rat}, FA w v q → Below w.heap.size w w' → FA w' v q
  put : ∀ {w X : World} {v : Value} {q : Rat} {g : Nat}, FA w v q → NoWB w g → (∀ k, k ≠ g → X.heap[k]? = w.heap[k]?) → w.heap.size ≤ X.heap.size → FA X v q
  zero : ∀ w : World, FA w (.agg #[.bool false, .slice none 0 0, .slice none 0 0]) 0
  cells : ∀ {w : World} {v : Value} {q : Rat}, FA w v q → ∃ b a n c a' n' c', v = .agg #[.bool b, .slice a n c, .slice a' n' c']
  neg : ∀ {w : World} {u v x : Value} {q : Rat}, FA w (.agg #[u, v, x]) q → u = .bool (decide (q.num < 0))
  top : ∀ {w : World} {u v x : Value} {q : Rat}, FA w (.agg #[u, v, x]) q → FA w (.agg #[.bool false, v, .slice none 0 0]) (natQ q.num.natAbs)
  len : ∀ {w : World} {u v x : Value} {q : Rat}, FA w (.agg #[u, v, x]) q → ∃ a c, v = .slice a (nlB q.num.natAbs) c
  word : ∀ {w : World} {t : TypeId} {n : Nat}, 0 < n → n < 18446744073709551616 → FA (w.alloc (.cells #[.int .u64 n] t)) (.agg #[.bool false, .slice (some ⟨w.heap.size, 0, none⟩) 1 1, .slice none 0 0]) (natQ n)
  envMono : ∀ {w w' : World}, E w → Below w.heap.size w w' → E w'
  txt : Rat → List UInt8
  FR : World → Value → Rat → Prop
  monoR : ∀ {w w' : World} {v : Value} {q : Rat}, FR w v q → Below w.heap.size w w' → FR w' v q
  putR : ∀ {w X : World} {v : Value} {q : Rat} {g : Nat}, FR w v q → NoWB w g → (∀ k, k ≠ g → X.heap[k]? = w.heap[k]?) → w.heap.size ≤ X.heap.size → FR X v q
  cellsR : ∀ {w : World} {v : Value} {q : Rat}, FR w v q → ∃ b a n c a' n' c', v = .agg #[.bool b, .slice a n c, .slice a' n' c']
  negR : ∀ {w : World} {u v x : Value} {q : Rat}, FR w (.agg #[u, v, x]) q → u = .bool (decide (q.num < 0))
def FT.FK (T : FT) (k : Nat) (w : World) (v : Value) (q : Rat) : Prop := if k < RK then T.FA w v q else T.FR w v q
theorem FT.FK.mono {T : FT} {k : Nat} {w w' : World} {v : Value} {q : Rat} (h : T.FK k w v q) (hb : Below w.heap.size w w') : T.FK k w' v q := by
  unfold FT.FK at h ⊢
  split
  · rename_i e; rw [if_pos e] at h; exact T.mono h hb
  · rename_i e; rw [if_neg e] at h; exact T.monoR h hb
theorem FT.FK.put {T : FT} {k : Nat} {w X : World} {v : Value} {q : Rat} {g : Nat} (h : T.FK k w v q) (h1 : NoWB w g) (h3 : ∀ k, k ≠ g → X.heap[k]? = w.heap[k]?) (h4 : w.heap.size ≤ X.heap.size) : T.FK k X v q := by
  unfold FT.FK at h ⊢
  split
  · rename_i e; rw [if_pos e] at h; exact T.put h h1 h3 h4
  · rename_i e; rw [if_neg e] at h; exact T.putR h h1 h3 h4
theorem FT.FK.cells {T : FT} {k : Nat} {w : World} {v : Value} {q : Rat} (h : T.FK k w v q) : ∃ b a n c a' n' c', v = .agg #[.bool b, .slice a n c, .slice a' n' c'] := by
  unfold FT.FK at h
  split at h
  · exact T.cells h
  · exact T.cellsR h
theorem FT.FK.neg {T : FT} {k : Nat} {w : World} {u v x : Value} {q : Rat} (h : T.FK k w (.agg #[u, v, x]) q) : u = .bool (decide (q.num < 0)) := by
  unfold FT.FK at h
  split at h
  · exact T.neg h
  · exact T.negR h
theorem FT.FK.fa {T : FT} {k : Nat} {w : World} {v : Value} {q : Rat} (h : T.FK k w v q) (hk : k ≤ 2432) : T.FA w v q := by
  unfold FT.FK at h; rw [if_pos (RK_gt hk)] at h; exact h
theorem FT.FK.of {T : FT} {k : Nat} {w : World} {v : Value} {q : Rat} (h : T.FA w v q) (hk : k ≤ 2432) : T.FK k w v q := by
  unfold FT.FK; rw [if_pos (RK_gt hk)]; exact h
theorem FT.FK.fr {T : FT} {k : Nat} {w : World} {v : Value} {q : Rat} (h : T.FK (RK + k) w v q) : T.FR w v q := by
  unfold FT.FK at h; rw [if_neg (by omega)] at h; exact h
theorem FT.FK.ofR {T : FT} {k : Nat} {w : World} {v : Value} {q : Rat} (h : T.FR w v q) : T.FK (RK + k) w v q := by
  unfold FT.FK; rw [if_neg (by omega)]; exact h
structure Blk where
  own : Bool
  ty : TypeId
  cells : List CV
  gr : Nat
  deriving DecidableEq
inductive LX where
  | ret | exit (id : Nat)
def LX.code : LX → Code
  | .ret => .ret
  | .exit id => .exit id
inductive LS where
  | ready | busy | done (x : LX) | over
structure LpE where
  tmps : TL
  ps : Array Tmp
  asg : Code
  body : Code
  st : LS
  d : Nat
structure St where
  rng : Sq (Int × Int)
  nB : Nat
  nS : Nat
  fit : Sq Nat
  nb : Nat
  heap : List (Nat × Blk)
  ncl : Nat
  cls : List (Nat × (FuncId × List CV))
  lps : List (Nat × LpE)
structure ASt where
  tmps : TL
  st : St
def look {α : Type} : List (Nat × α) → Nat → Option α
  | [], _ => none
  | (j, x) :: l, i => if i = j then some x else look l i
def upd {α : Type} : List (Nat × α) → Nat → α → List (Nat × α)
  | [], _, _ => []
  | (j, x) :: l, i, y => if i = j then (j, y) :: l else (j, x) :: upd l i y
theorem look_upd_same {α : Type} : ∀ {l : List (Nat × α)} {i : Nat} {x y : α}, look l i = some x → look (upd l i y) i = some y
  | (j, z) :: l, i, x, y, h => by
    by_cases e : i = j
    · simp [upd, look, e]
    · simp only [upd, look, e, if_false] at h ⊢
      exact look_upd_same h
theorem look_upd_other {α : Type} : ∀ {l : List (Nat × α)} {i k : Nat} {y : α}, k ≠ i → look (upd l i y) k = look l k
  | [], _, _, _, _ => rfl
  | (j, z) :: l, i, k, y, h => by
    by_cases e : i = j
    · subst e; simp [upd, look, h]
    · simp only [upd, look, e, if_false]
      rw [look_upd_other h]
def CV.noW : CV → Bool
  | .il .u64 _ | .iv .u64 _ | .il .u32 _ | .iv .u32 _ => false
  | _ => true
def BlkAt (w0 : World) (ρ : Env) (w : World) (id : Nat) (b : Blk) : Prop :=
  (b.own = true → ∃ g cs, ρ.blk id = some (g, 0) ∧ w.heap[g]? = some (.cells cs b.ty (0, 0)) ∧ All2 (CRel ρ) b.cells (cs.toList.take b.cells.length) ∧ (b.cells.all (·.noW) = true → NoW cs.toList) ∧ w0.heap.size ≤ g ∧ (b.gr ≠ 0 → ∃ c z, ρ.blk (id + 1) = some (c, z) ∧ cs.size = c * b.gr ∧ c ≤ maxLen)) ∧
  (b.own = false → ∃ g o vs, ρ.blk id = some (g, o) ∧ w.rangeAt g o vs ∧ All2 (CRel ρ) b.cells vs ∧ g < w0.heap.size)
structure MRel (T : FT) (ρ : Env) (s : St) (w : World) : Prop where
  nI : ρ.m.I.length = s.rng.n
  nB : ρ.m.B.length = s.nB
  nS : ρ.m.S.length = s.nS
  nQ : ρ.m.Q.length = s.fit.n
  rng : ∀ (i : Nat) (lo hi n : Int), s.rng.get i = some (lo, hi) → ρ.m.I[i]? = some n → lo ≤ n ∧ n ≤ hi
  fit : ∀ (i k : Nat) (q : Rat), s.fit.get i = some k → ρ.m.Q[i]? = some q → Fits' k q
  frac : ∀ (i : Nat) (t : Value × Value × Value), ρ.F i = some t → ∃ q k, ρ.m.Q[i]? = some q ∧ s.fit.get i = some k ∧ T.FK k w (.agg #[t.1, t.2.1, t.2.2]) q
  fresh : ∀ id, s.nb ≤ id → ρ.blk id = none
  freshF : ∀ i, s.fit.n ≤ i → ρ.F i = none
  freshC : ∀ i, s.ncl ≤ i → ρ.C i = none
  cls : ∀ i f caps, look s.cls i = some (f, caps) → ∃ cs : List Value, ρ.C i = some (.func (.func f) #[] cs.toArray) ∧ All2 (CRel ρ) caps cs
  oneC : ∀ i v, ρ.C i = some v → ∃ f a b, v = .func f a b
structure HRel (T : FT) (w0 : World) (ρ : Env) (h : List (Nat × Blk)) (w : World) : Prop where
  below : Below w0.heap.size w0 w
  env : T.E w0
  heap : ∀ id b, look h id = some b → BlkAt w0 ρ w id b
  inj : ∀ i j bi bj g, look h i = some bi → look h j = some bj → bi.own = true → bj.own = true → ρ.blk i = some (g, 0) → ρ.blk j = some (g, 0) → i = j
def LSR : LS → Loop → Prop
  | .ready, r => r.state = .ready ∧ r.pending = none
  | .busy, r => r.state = .busy
  | .done x, r => r.state = .done ∧ r.pending = some x.code
  | .over, r => r.state = .exhausted
structure LpOk (ρ : Env) (e : LpE) (D : Nat) (r : Loop) : Prop where
  ps : r.params = e.ps
  asg : r.assign = e.asg
  body : r.body = e.body
  dfr : r.defers = D
  tr : TmR ρ e.tmps r.tmps.toList
  st : LSR e.st r
def LpAt (w0 : World) (ρ : Env) (w : World) (i : Nat) (e : LpE) : Prop :=
  ∃ l D r, ρ.C i = some (.func (.yield l) #[] #[]) ∧ ρ.blk e.d = some (D, 0) ∧ w0.heap.size ≤ l ∧ w0.heap.size ≤ D ∧ w.heap[l]? = some (.loop r) ∧ w.heap[D]? = some (.deferred (some [])) ∧ LpOk ρ e D r
structure LRel (w0 : World) (ρ : Env) (lps : List (Nat × LpE)) (w : World) : Prop where
  at_ : ∀ i e, look lps i = some e → LpAt w0 ρ w i e
  injL : ∀ i j e f l, look lps i = some e → look lps j = some f → ρ.C i = some (.func (.yield l) #[] #[]) → ρ.C j = some (.func (.yield l) #[] #[]) → i = j
  injD : ∀ i j e f D, look lps i = some e → look lps j = some f → ρ.blk e.d = some (D, 0) → ρ.blk f.d = some (D, 0) → e.d = f.d
def KeepL (w w' : World) : Prop := ∀ (g : Nat) (o : Obj), w.heap[g]? = some o → (∀ cs t k, o ≠ .cells cs t k) → w'.heap[g]? = some o
theorem KeepL.below {w w' : World} (h : Below w.heap.size w w') : KeepL w w' := fun g _ e _ => (h.block g (Array.getElem?_eq_some_iff.1 e).1).trans e
theorem KeepL.refl (w : World) : KeepL w w := fun _ _ e _ => e
theorem LRel.later {w0 : World} {ρ ρ' : Env} {lps : List (Nat × LpE)} {w w' : World} (H : LRel w0 ρ lps w) (hρ : ρ.le ρ') (hk : KeepL w w') : LRel w0 ρ' lps w' where
  at_ i e h := by
    obtain ⟨l, D, r, h1, h2, h3, h4, h5, h6, h7⟩ := H.at_ i e h
    exact ⟨l, D, r, hρ.2.2.2 _ _ h1, hρ.2.1 _ _ h2, h3, h4, hk _ _ h5 (fun _ _ _ e => by cases e), hk _ _ h6 (fun _ _ _ e => by cases e), { h7 with tr := h7.tr.mono hρ }⟩
  injL i j e f l hi hj ei ej := by
    obtain ⟨l1, _, _, h1, _⟩ := H.at_ i e hi
    obtain ⟨l2, _, _, h2, _⟩ := H.at_ j f hj
    have e1 := hρ.2.2.2 _ _ h1
    have e2 := hρ.2.2.2 _ _ h2
    rw [ei] at e1; rw [ej] at e2
    cases e1; cases e2
    exact H.injL i j e f l hi hj h1 h2
  injD i j e f D hi hj ei ej := by
    obtain ⟨_, D1, _, _, h1, _⟩ := H.at_ i e hi
    obtain ⟨_, D2, _, _, h2, _⟩ := H.at_ j f hj
    have e1 := hρ.2.1 _ _ h1
    have e2 := hρ.2.1 _ _ h2
    rw [ei] at e1; rw [ej] at e2
    cases e1; cases e2
    exact H.injD i j e f D hi hj h1 h2
theorem LRel.nil (w0 : World) (ρ : Env) (w : World) : LRel w0 ρ [] w := ⟨(fun _ _ h => nomatch h), (fun _ _ _ _ _ h => nomatch h), (fun _ _ _ _ _ h => nomatch h)⟩
structure SRel (T : FT) (w0 : World) (ρ : Env) (s : St) (w : World) : Prop where
  m : MRel T ρ s w
  h : HRel T w0 ρ s.heap w
  l : LRel w0 ρ s.lps w
structure Rel (T : FT) (w0 : World) (ρ : Env) (s : ASt) (a : Act) (w : World) : Prop where
  sr : SRel T w0 ρ s.st w
  tr : TmR ρ s.tmps a.tmps.toList
  dr : a.defers = []
variable {T : FT} {w0 : World}
theorem BlkAt.blk {ρ : Env} {w : World} {id : Nat} {b : Blk} (h : BlkAt w0 ρ w id b) : ∃ x, ρ.blk id = some x := by
  cases e : b.own with
  | true => obtain ⟨g, cs, h1, _⟩ := h.1 e; exact ⟨_, h1⟩
  | false => obtain ⟨g, o, vs, h1, _⟩ := h.2 e; exact ⟨_, h1⟩
theorem lt_of_heap {w : World} {g : Nat} {o : Obj} (h : w.heap[g]? = some o) : g < w.heap.size := (Array.getElem?_eq_some_iff.1 h).1
theorem rangeAt_later {w w' : World} {g o : Nat} {vs : List Value} {B : Nat} (h : w.rangeAt g o vs) (hb : Below B w w') (hg : g < B) : w'.rangeAt g o vs := fun j v hv => by
  rw [← h j v hv]
  exact hb.cell (p := ⟨g, o + j, none⟩) hg
theorem BlkAt.later {ρ ρ' : Env} {w w' : World} {id : Nat} {b : Blk} (h : BlkAt w0 ρ w id b) (hρ : ρ.le ρ') (hb : Below w.heap.size w w') (h0 : w0.heap.size ≤ w.heap.size) : BlkAt w0 ρ' w' id b :=
  ⟨fun e => by
    obtain ⟨g, cs, h1, h2, h3, h4, h5, h6⟩ := h.1 e
    exact ⟨g, cs, hρ.2.1 _ _ h1, (hb.block g (lt_of_heap h2)).trans h2, h3.mono fun _ _ => CRel.mono hρ, h4, h5, fun hg => by
      obtain ⟨c, z, k1, k2, k3⟩ := h6 hg
      exact ⟨c, z, hρ.2.1 _ _ k1, k2, k3⟩⟩,
   fun e => by
    obtain ⟨g, o, vs, h1, h2, h3, h4⟩ := h.2 e
    exact ⟨g, o, vs, hρ.2.1 _ _ h1, rangeAt_later h2 hb (by omega), h3.mono fun _ _ => CRel.mono hρ, h4⟩⟩
theorem HRel.later {ρ ρ' : Env} {h : List (Nat × Blk)} {w w' : World} (H : HRel T w0 ρ h w) (hρ : ρ.le ρ') (hb : Below w.heap.size w w') : HRel T w0 ρ' h w' where
  below := H.below.trans (hb.mono H.below.size)
  env := H.env
  heap := fun id b e => (H.heap id b e).later hρ hb H.below.size
  inj := fun i j bi bj g hi hj oi oj ei ej => by
    obtain ⟨x, hx⟩ := (H.heap i bi hi).blk
    obtain ⟨y, hy⟩ := (H.heap j bj hj).blk
    have e1 := hρ.2.1 _ _ hx
    have e2 := hρ.2.1 _ _ hy
    rw [ei] at e1; rw [ej] at e2
    cases e1; cases e2
    exact H.inj i j bi bj g hi hj oi oj hx hy
theorem MRel.world {ρ : Env} {s : St} {w w' : World} (H : MRel T ρ s w) (hb : Below w.heap.size w w') : MRel T ρ s w' :=
  { H with frac := fun i t e => by obtain ⟨q, k, h1, h3, h2⟩ := H.frac i t e; exact ⟨q, k, h1, h3, h2.mono hb⟩ }
theorem SRel.world {ρ : Env} {s : St} {w w' : World} (H : SRel T w0 ρ s w) (hb : Below w.heap.size w w') : SRel T w0 ρ s w' := ⟨H.m.world hb, H.h.later (.refl _) hb, H.l.later (.refl _) (.below hb)⟩
theorem below_drew' (w : World) : Below w.heap.size w w.drew := (Below.refl _ _).drew
theorem SRel.drew {ρ : Env} {s : St} {w : World} (H : SRel T w0 ρ s w) : SRel T w0 ρ s w.drew := H.world (below_drew' w)
theorem SRel.env {ρ : Env} {s : St} {w : World} (H : SRel T w0 ρ s w) : T.E w := T.envMono H.h.env H.h.below
theorem CRel.one {ρ : Env} {s : St} {w : World} (H : MRel T ρ s w) {x : CV} {v : Value} (h : CRel ρ x v) : v.oneCell' = true := by
  cases x with
  | bl b => cases (h : v = _); rfl
  | bv i => obtain ⟨b, _, rfl⟩ := h; rfl
  | il k n => cases (h : v = _); rfl
  | iv k i => obtain ⟨b, _, rfl⟩ := h; rfl
  | sl s => cases (h : v = _); rfl
  | sv i => obtain ⟨b, _, rfl⟩ := h; rfl
  | pt b off => obtain ⟨g, o, _, rfl⟩ := h; rfl
  | npt => cases (h : v = _); rfl
  | nfn => cases (h : v = _); rfl
  | sc b off n c => obtain ⟨g, o, _, rfl⟩ := h; rfl
  | nsl => cases (h : v = _); rfl
  | sr b off n i d => obtain ⟨g, o, k, _, _, _, rfl⟩ := h; rfl
  | su b i => obtain ⟨g, o, n, k, _, _, _, _, rfl⟩ := h; rfl
  | sg b off n d => obtain ⟨g, o, c, z, _, _, _, rfl⟩ := h; rfl
  | fc i j =>
    obtain ⟨t, e, rfl⟩ := h
    obtain ⟨q, _, _, _, hf⟩ := H.frac i t e
    obtain ⟨b, a, n, c, a', n', c', he⟩ := hf.cells
    obtain ⟨t1, t2, t3⟩ := t
    simp at he
    obtain ⟨rfl, rfl, rfl⟩ := he
    unfold nth3
    split <;> rfl
  | fn f => cases (h : v = _); rfl
  | cl i => obtain ⟨f, a, b, rfl⟩ := H.oneC i v h; rfl
  | fl k b => cases (h : v = _); rfl
  | cx k r i => cases (h : v = _); rfl
theorem CRel.nw {ρ : Env} {s : St} {w : World} (H : MRel T ρ s w) {x : CV} {v : Value} (h : CRel ρ x v) (hx : x.noW = true) (m : Int) : v ≠ .int .u64 m ∧ v ≠ .int .u32 m := by
  constructor
  all_goals
    intro e
    subst e
    cases x with
    | bl b => cases (h : _ = _)
    | bv i => obtain ⟨b, _, e⟩ := h; cases e
    | il k n => cases (h : _ = _); cases hx
    | iv k i => obtain ⟨b, _, e⟩ := h; cases e; cases hx
    | sl s => cases (h : _ = _)
    | sv i => obtain ⟨b, _, e⟩ := h; cases e
    | pt b off => obtain ⟨g, o, _, e⟩ := h; cases e
    | npt => cases (h : _ = _)
    | nfn => cases (h : _ = _)
    | sc b off n c => obtain ⟨g, o, _, e⟩ := h; cases e
    | nsl => cases (h : _ = _)
    | sr b off n i d => obtain ⟨g, o, k, _, _, _, e⟩ := h; cases e
    | su b i => obtain ⟨g, o, n, k, _, _, _, _, e⟩ := h; cases e
    | sg b off n d => obtain ⟨g, o, c, z, _, _, _, e⟩ := h; cases e
    | fc i j =>
      obtain ⟨t, e, e2⟩ := h
      obtain ⟨q, _, _, _, hf⟩ := H.frac i t e
      obtain ⟨b, a, n, c, a', n', c', he⟩ := hf.cells
      obtain ⟨t1, t2, t3⟩ := t
      simp at he
      obtain ⟨rfl, rfl, rfl⟩ := he
      unfold nth3 at e2
      split at e2 <;> cases e2
    | fn f => cases (h : _ = _)
    | cl i => obtain ⟨f, a, b, e⟩ := H.oneC i _ h; cases e
    | fl k b => cases (h : _ = _)
    | cx k r i => cases (h : _ = _)
theorem All2.ones {ρ : Env} {s : St} {w : World} (H : MRel T ρ s w) : ∀ {l : List CV} {vs : List Value}, All2 (CRel ρ) l vs → ∀ v ∈ vs, v.oneCell' = true
  | [], [], _, v, h => by cases h
  | _ :: _, _ :: _, ⟨a, b⟩, v, h => by
    rcases List.mem_cons.1 h with rfl | h
    · exact CRel.one H a
    · exact All2.ones H b v h
theorem All2.nws {ρ : Env} {s : St} {w : World} (H : MRel T ρ s w) : ∀ {l : List CV} {vs : List Value}, All2 (CRel ρ) l vs → l.all (·.noW) = true → NoW vs
  | [], [], _, _, v, h => by cases h
  | _ :: _, _ :: _, ⟨a, b⟩, e, v, h => by
    simp only [List.all_cons, Bool.and_eq_true] at e
    rcases List.mem_cons.1 h with rfl | h
    · exact CRel.nw H a e.1
    · exact All2.nws H b e.2 v h
def Env.addBlk (ρ : Env) (id : Nat) (x : Nat × Nat) : Env := { ρ with blk := fun i => if i = id then some x else ρ.blk i }
theorem Env.le_addBlk {ρ : Env} {id : Nat} (h : ρ.blk id = none) (x : Nat × Nat) : ρ.le (ρ.addBlk id x) :=
  ⟨.refl _, fun i y e => by
    have : i ≠ id := by rintro rfl; rw [h] at e; cases e
    simp [Env.addBlk, this, e], fun _ _ h => h, fun _ _ h => h⟩
def St.setHeap (s : St) (h : List (Nat × Blk)) : St := St.rec (motive := fun _ => St) (fun rng nB nS fit nb _ ncl cls lps => ⟨rng, nB, nS, fit, nb, h, ncl, cls, lps⟩) s
theorem St.setHeap_eq (s : St) (h : List (Nat × Blk)) : s.setHeap h = { s with heap := h } := rfl
def St.new (s : St) (ty : TypeId) (cs : List CV) : St := St.rec (motive := fun _ => St) (fun rng nB nS fit nb heap ncl cls lps => ⟨rng, nB, nS, fit, nb + 1, (nb, ⟨true, ty, cs, 0⟩) :: heap, ncl, cls, lps⟩) s
theorem St.new_eq (s : St) (ty : TypeId) (cs : List CV) : s.new ty cs = { s with nb := s.nb + 1, heap := (s.nb, ⟨true, ty, cs, 0⟩) :: s.heap } := rfl
theorem SRel.alloc {ρ : Env} {s : St} {w : World} (H : SRel T w0 ρ s w) (ty : TypeId) {l : List CV} {cs : Array Value} (hl : All2 (CRel ρ) l cs.toList) :
    ρ.le (ρ.addBlk s.nb (w.heap.size, 0)) ∧ SRel T w0 (ρ.addBlk s.nb (w.heap.size, 0)) (s.new ty l) (w.alloc (.cells cs ty)) := by
  have hle := Env.le_addBlk (H.m.fresh s.nb (Nat.le_refl _)) (w.heap.size, 0)
  have hb : Below w.heap.size w (w.alloc (.cells cs ty)) := (Below.refl _ _).alloc (Nat.le_refl _) _
  have hH := H.h.later hle hb
  have hM := H.m.world hb
  have hnw := fun hn => All2.nws H.m hl hn
  refine ⟨hle, ⟨{ nI := hM.nI, nB := hM.nB, nS := hM.nS, nQ := hM.nQ, rng := hM.rng, fit := hM.fit, frac := hM.frac, fresh := ?_, freshF := hM.freshF, freshC := hM.freshC, cls := ?_, oneC := hM.oneC }, { below := hH.below, env := hH.env, heap := ?_, inj := ?_ }, H.l.later hle (.below hb)⟩⟩
  · intro id hid
    simp only [St.new_eq] at hid
    simp only [Env.addBlk]
    rw [if_neg (by omega)]
    exact hM.fresh id (by omega)
  · intro i f caps e
    obtain ⟨cs', h1, h2⟩ := hM.cls i f caps e
    exact ⟨cs', h1, h2.mono fun _ _ => CRel.mono hle⟩
  · intro id b e
    simp only [St.new_eq, look] at e
    split at e
    · rename_i he
      cases e
      subst he
      refine ⟨fun _ => ⟨w.heap.size, cs, by simp [Env.addBlk], ?_, ?_, hnw, H.h.below.size, fun h => absurd rfl h⟩, fun e => by cases e⟩
      · show (w.heap.push _)[w.heap.size]? = _
        simp
      · show All2 _ l (cs.toList.take l.length)
        rw [hl.length, List.take_length]
        exact hl.mono fun _ _ => CRel.mono hle
    · exact hH.heap id b e
  · intro i j bi bj g hi hj oi oj ei ej
    simp only [St.new_eq, look] at hi hj
    have far : ∀ k bk, look s.heap k = some bk → bk.own = true → (ρ.addBlk s.nb (w.heap.size, 0)).blk k = some (w.heap.size, 0) → False := by
      intro k bk hk ok ek
      obtain ⟨g', cs', h1, h2, _⟩ := (H.h.heap k bk hk).1 ok
      have := hle.2.1 _ _ h1
      rw [ek] at this
      cases this
      have := lt_of_heap h2
      omega
    split at hi
    · rename_i he
      subst he
      have hg : g = w.heap.size := by simp [Env.addBlk] at ei; exact ei.symm
      subst hg
      split at hj
      · rename_i he; exact he.symm
      · exact absurd ej (fun h => far j bj hj oj h)
    · split at hj
      · rename_i he
        subst he
        have hg : g = w.heap.size := by simp [Env.addBlk] at ej; exact ej.symm
        subst hg
        exact absurd ei (fun h => far i bi hi oi h)
      · exact hH.inj i j bi bj g hi hj oi oj ei ej
def setsL {α : Type} : List α → Nat → List α → List α
  | cs, _, [] => cs
  | cs, o, v :: r => setsL (cs.set o v) (o + 1) r
theorem setsL_len {α : Type} : ∀ (vs cs : List α) (o : Nat), (setsL cs o vs).length = cs.length
  | [], _, _ => rfl
  | _ :: r, cs, o => by rw [setsL, setsL_len r]; simp
theorem setsL_take {α : Type} : ∀ (vs cs : List α) (o n : Nat), (setsL cs o vs).take n = setsL (cs.take n) o vs
  | [], _, _, _ => rfl
  | v :: r, cs, o, n => by rw [setsL, setsL, setsL_take r, List.take_set]
theorem All2.sets {α β : Type} {R : α → β → Prop} : ∀ {a : List α} {b : List β}, All2 R a b → ∀ {l : List α} {k : List β} (o : Nat), All2 R l k → All2 R (setsL l o a) (setsL k o b)
  | [], [], _, _, _, _, h => h
  | _ :: _, _ :: _, ⟨x, y⟩, _, _, o, h => All2.sets y (o + 1) (h.set x o)
theorem NoW.set {cs : List Value} (h : NoW cs) {v : Value} (hv : ∀ n, v ≠ .int .u64 n ∧ v ≠ .int .u32 n) (o : Nat) : NoW (cs.set o v) := fun x hx => by
  rcases List.mem_or_eq_of_mem_set hx with h1 | rfl
  · exact h x h1
  · exact hv
theorem NoW.sets : ∀ {vs cs : List Value} (o : Nat), NoW cs → NoW vs → NoW (setsL cs o vs)
  | [], _, _, h, _ => h
  | v :: r, _, o, h, hv => NoW.sets (o + 1) (h.set (hv v (by simp)) o) (fun x hx => hv x (by simp [hx]))
theorem heap_setCells (g : Nat) : ∀ (vs : List Value) (o : Nat) (w : World) (cs : Array Value) (t : TypeId), w.heap[g]? = some (.cells cs t (0, 0)) →
    (w.setCells g o vs).heap[g]? = some (.cells (setsL cs.toList o vs).toArray t (0, 0))
  | [], _, _, _, _, h => by simpa [setsL, World.setCells] using h
  | v :: r, o, w, cs, t, h => by
    have h1 : (w.setCell ⟨g, o, none⟩ v).heap[g]? = some (.cells (cs.setIfInBounds o v) t (0, 0)) := by
      simp only [World.setCell, Array.getElem?_modify, h]; simp
    have := heap_setCells g r (o + 1) _ _ t h1
    simp only [World.setCells, setsL]
    rw [this]
    congr 4
    simp
theorem heap_setCells_off (g : Nat) {k : Nat} (hk : k ≠ g) : ∀ (vs : List Value) (o : Nat) (w : World), (w.setCells g o vs).heap[k]? = w.heap[k]?
  | [], _, _ => rfl
  | v :: r, o, w => by
    rw [World.setCells, heap_setCells_off g hk r (o + 1)]
    simp only [World.setCell, Array.getElem?_modify]
    rw [if_neg (by omega)]
theorem below_setCells {B : Nat} {a : World} (g : Nat) (hg : B ≤ g) : ∀ (vs : List Value) (o : Nat) (w : World), Below B a w → Below B a (w.setCells g o vs)
  | [], _, _, h => h
  | v :: r, o, _, h => below_setCells g hg r (o + 1) _ (h.setCell (p := ⟨g, o, none⟩) hg v)
theorem SRel.store {ρ : Env} {s : St} {w : World} (H : SRel T w0 ρ s w) {id : Nat} {b : Blk} (hid : look s.heap id = some b) (ho : b.own = true) {g : Nat} {cs : Array Value} (hg : ρ.blk id = some (g, 0)) (hw : w.heap[g]? = some (.cells cs b.ty (0, 0)))
    (hc : All2 (CRel ρ) b.cells (cs.toList.take b.cells.length)) (hnc : b.cells.all (·.noW) = true → NoW cs.toList) (hg0 : w0.heap.size ≤ g) (hgr : b.gr ≠ 0 → ∃ c z, ρ.blk (id + 1) = some (c, z) ∧ cs.size = c * b.gr ∧ c ≤ maxLen) {l : List CV} {vs : List Value} (hl : All2 (CRel ρ) l vs) (o : Nat) (hn : (b.cells.all (·.noW) = true ∧ l.all (·.noW) = true) ∨ (s.fit.n = 0 ∧ (setsL b.cells o l).all (·.noW) = false)) :
    SRel T w0 ρ { s with heap := upd s.heap id { b with cells := setsL b.cells o l } } (w.setCells g o vs) := by
  have hb0 := below_setCells g hg0 vs o w H.h.below
  have hsz : w.heap.size ≤ (w.setCells g o vs).heap.size := (below_setCells (B := 0) (a := w) g (Nat.zero_le _) vs o w (Below.refl _ _)).size
  refine ⟨{ nI := H.m.nI, nB := H.m.nB, nS := H.m.nS, nQ := H.m.nQ, rng := H.m.rng, fit := H.m.fit, frac := ?_, fresh := H.m.fresh, freshF := H.m.freshF, freshC := H.m.freshC, cls := H.m.cls, oneC := H.m.oneC }, { below := hb0, env := H.h.env, heap := ?_, inj := ?_ }, H.l.later (.refl _) fun k o e hn => ?_⟩
  · intro i t e
    obtain ⟨q, k, h1, h3, h2⟩ := H.m.frac i t e
    rcases hn with hn | hn
    · exact ⟨q, k, h1, h3, h2.put (.cells hw (hnc hn.1)) (fun k hk => heap_setCells_off g hk vs o w) hsz⟩
    · rw [H.m.freshF i (by rw [hn.1]; exact Nat.zero_le _)] at e; cases e
  · intro i bi e
    by_cases hi : i = id
    · subst hi
      rw [look_upd_same hid] at e
      cases e
      refine ⟨fun _ => ⟨g, _, hg, heap_setCells g vs o w cs b.ty hw, ?_, ?_, hg0, fun hg => ?_⟩, fun e => by simp [ho] at e⟩
      · show All2 _ (setsL b.cells o l) (((setsL cs.toList o vs).toArray.toList).take (setsL b.cells o l).length)
        rw [setsL_len, List.toList_toArray, setsL_take]
        exact hl.sets o hc
      · intro hx
        rcases hn with hn | hn
        · simpa using NoW.sets o (hnc hn.1) (All2.nws H.m hl hn.2)
        · rw [show (setsL b.cells o l).all (·.noW) = true from hx] at hn; cases hn.2
      · obtain ⟨c, z, k1, k2, k3⟩ := hgr hg
        exact ⟨c, z, k1, by simpa [setsL_len] using k2, k3⟩
    · rw [look_upd_other hi] at e
      have h0 := H.h.heap i bi e
      refine ⟨fun eo => ?_, fun eo => ?_⟩
      · obtain ⟨g', cs', h1, h2, h3, h4, h5, h6⟩ := h0.1 eo
        have hne : g' ≠ g := by
          rintro rfl
          exact hi (H.h.inj i id bi b g' e hid eo ho h1 hg)
        exact ⟨g', cs', h1, (heap_setCells_off g hne vs o w).trans h2, h3, h4, h5, h6⟩
      · obtain ⟨g', o', vs', h1, h2, h3, h4⟩ := h0.2 eo
        refine ⟨g', o', vs', h1, fun j v hv => ?_, h3, h4⟩
        have hne : g' ≠ g := by omega
        rw [← h2 j v hv]
        simp only [World.cell?]
        rw [heap_setCells_off g hne vs o w]
  · intro i j bi bj g' hi hj oi oj ei ej
    have own : ∀ k bk, look (upd s.heap id { b with cells := setsL b.cells o l }) k = some bk → ∃ bk', look s.heap k = some bk' ∧ bk'.own = bk.own := by
      intro k bk hk
      by_cases hki : k = id
      · subst hki
        rw [look_upd_same hid] at hk
        cases hk
        exact ⟨b, hid, rfl⟩
      · rw [look_upd_other hki] at hk
        exact ⟨bk, hk, rfl⟩
    obtain ⟨bi', h1, e1⟩ := own i bi hi
    obtain ⟨bj', h2, e2⟩ := own j bj hj
    exact H.h.inj i j bi' bj' g' h1 h2 (e1.trans oi) (e2.trans oj) ei ej
  · have hkg : k ≠ g := by rintro rfl; rw [hw] at e; cases e; exact hn _ _ _ rfl
    exact (heap_setCells_off g hkg vs _ w).trans e
def Env.withM (ρ : Env) (m : M) : Env := { ρ with m := m }
theorem Env.le_withM {ρ : Env} {m : M} (h : ρ.m.le m) : ρ.le (ρ.withM m) := ⟨h, fun _ _ h => h, fun _ _ h => h, fun _ _ h => h⟩
theorem HRel.math {ρ : Env} {h : List (Nat × Blk)} {w : World} (H : HRel T w0 ρ h w) {m : M} (hm : ρ.m.le m) : HRel T w0 (ρ.withM m) h w := H.later (Env.le_withM hm) (Below.refl _ _)
theorem snoc_get {α : Type} {l : List α} {y : α} {i : Nat} {x : α} (h : (l ++ [y])[i]? = some x) : l[i]? = some x ∨ (i = l.length ∧ x = y) := by
  by_cases hi : i < l.length
  · rw [List.getElem?_append_left hi] at h; exact .inl h
  · rw [List.getElem?_append_right (by omega)] at h
    rcases e : i - l.length with _ | k
    · rw [e] at h; simp at h; exact .inr ⟨by omega, h.symm⟩
    · rw [e] at h; simp at h
def St.addI (s : St) (lo hi : Int) : St := St.rec (motive := fun _ => St) (fun rng nB nS fit nb heap ncl cls lps => ⟨rng.push (lo, hi), nB, nS, fit, nb, heap, ncl, cls, lps⟩) s
theorem St.addI_eq (s : St) (lo hi : Int) : s.addI lo hi = { s with rng := s.rng.push (lo, hi) } := rfl
def St.addB (s : St) : St := St.rec (motive := fun _ => St) (fun rng nB nS fit nb heap ncl cls lps => ⟨rng, nB + 1, nS, fit, nb, heap, ncl, cls, lps⟩) s
theorem St.addB_eq (s : St) : s.addB = { s with nB := s.nB + 1 } := rfl
def St.addS (s : St) : St := St.rec (motive := fun _ => St) (fun rng nB nS fit nb heap ncl cls lps => ⟨rng, nB, nS + 1, fit, nb, heap, ncl, cls, lps⟩) s
theorem St.addS_eq (s : St) : s.addS = { s with nS := s.nS + 1 } := rfl
theorem SRel.pushI {ρ : Env} {s : St} {w : World} (H : SRel T w0 ρ s w) {n lo hi : Int} (h0 : lo ≤ n) (h1 : n ≤ hi) : SRel T w0 (ρ.withM (ρ.m.pushI n)) (s.addI lo hi) w := by
  have hle := M.le_pushI ρ.m n
  refine ⟨{ nI := by simp [Env.withM, M.pushI, St.addI_eq, Sq.push, H.m.nI], nB := H.m.nB, nS := H.m.nS, nQ := H.m.nQ, rng := ?_, fit := H.m.fit, frac := H.m.frac, fresh := H.m.fresh, freshF := H.m.freshF, freshC := H.m.freshC, cls := ?_, oneC := H.m.oneC }, H.h.math hle, H.l.later (Env.le_withM hle) (.refl _)⟩
  · intro i l h k e1 e2
    rcases Sq.get_push (q := s.rng) e1 with ⟨_, e1⟩ | ⟨e1, e3⟩ <;> rcases snoc_get e2 with e2 | ⟨e2, e4⟩
    · exact H.m.rng i l h k e1 e2
    · have := Sq.get_lt e1; have := H.m.nI; omega
    · have := (List.getElem?_eq_some_iff.1 e2).1; have := H.m.nI; omega
    · cases e3; subst e4; exact ⟨h0, h1⟩
  · intro i f caps e
    obtain ⟨cs, h1, h2⟩ := H.m.cls i f caps e
    exact ⟨cs, h1, h2.mono fun _ _ => CRel.mono (Env.le_withM hle)⟩
theorem SRel.pushB {ρ : Env} {s : St} {w : World} (H : SRel T w0 ρ s w) (n : Bool) : SRel T w0 (ρ.withM (ρ.m.pushB n)) s.addB w := by
  have hle := M.le_pushB ρ.m n
  refine ⟨{ nI := H.m.nI, nB := by simp [Env.withM, M.pushB, St.addB_eq, H.m.nB], nS := H.m.nS, nQ := H.m.nQ, rng := H.m.rng, fit := H.m.fit, frac := H.m.frac, fresh := H.m.fresh, freshF := H.m.freshF, freshC := H.m.freshC, cls := ?_, oneC := H.m.oneC }, H.h.math hle, H.l.later (Env.le_withM hle) (.refl _)⟩
  intro i f caps e
  obtain ⟨cs, h1, h2⟩ := H.m.cls i f caps e
  exact ⟨cs, h1, h2.mono fun _ _ => CRel.mono (Env.le_withM hle)⟩
theorem SRel.pushS {ρ : Env} {s : St} {w : World} (H : SRel T w0 ρ s w) (n : List UInt8) : SRel T w0 (ρ.withM (ρ.m.pushS n)) s.addS w := by
  have hle := M.le_pushS ρ.m n
  refine ⟨{ nI := H.m.nI, nB := H.m.nB, nS := by simp [Env.withM, M.pushS, St.addS_eq, H.m.nS], nQ := H.m.nQ, rng := H.m.rng, fit := H.m.fit, frac := H.m.frac, fresh := H.m.fresh, freshF := H.m.freshF, freshC := H.m.freshC, cls := ?_, oneC := H.m.oneC }, H.h.math hle, H.l.later (Env.le_withM hle) (.refl _)⟩
  intro i f caps e
  obtain ⟨cs, h1, h2⟩ := H.m.cls i f caps e
  exact ⟨cs, h1, h2.mono fun _ _ => CRel.mono (Env.le_withM hle)⟩
theorem Sq.get_push_last {α : Type} (q : Sq α) (x : α) : (q.push x).get q.n = some x := by
  unfold Sq.get
  show (match Nat.blt q.n (q.n + 1) with | true => (x :: q.l)[q.n + 1 - 1 - q.n]? | false => none) = some x
  rw [show Nat.blt q.n (q.n + 1) = true by simp [Nat.blt_eq], show q.n + 1 - 1 - q.n = 0 by omega]
  rfl
theorem Sq.get_push_old {α : Type} {q : Sq α} {x y : α} {i : Nat} (h : q.get i = some y) : (q.push x).get i = some y := by
  have hi := Sq.get_lt h
  unfold Sq.get at h ⊢
  show (match Nat.blt i (q.n + 1) with | true => (x :: q.l)[q.n + 1 - 1 - i]? | false => none) = some y
  rw [show Nat.blt i (q.n + 1) = true by simp [Nat.blt_eq]; omega, show q.n + 1 - 1 - i = (q.n - 1 - i) + 1 by omega]
  rw [show Nat.blt i q.n = true by simp [Nat.blt_eq]; omega] at h
  simpa using h
def Env.addF (ρ : Env) (q : Rat) (i : Nat) (t : Value × Value × Value) : Env := { ρ with m := ρ.m.pushQ q, F := fun j => if j = i then some t else ρ.F j }
def St.addF (s : St) (k : Nat) : St := St.rec (motive := fun _ => St) (fun rng nB nS fit nb heap ncl cls lps => ⟨rng, nB, nS, fit.push k, nb, heap, ncl, cls, lps⟩) s
theorem St.addF_eq (s : St) (k : Nat) : s.addF k = { s with fit := s.fit.push k } := rfl
theorem SRel.pushF {ρ : Env} {s : St} {w w' : World} (H : SRel T w0 ρ s w) (hb : Below w.heap.size w w') {q : Rat} {t : Value × Value × Value} {k : Nat} (hq : T.FK k w' (.agg #[t.1, t.2.1, t.2.2]) q) (hk : Fits' k q) :
    ρ.le (ρ.addF q s.fit.n t) ∧ SRel T w0 (ρ.addF q s.fit.n t) (s.addF k) w' := by
  have hM := H.m.world hb
  have hle : ρ.le (ρ.addF q s.fit.n t) := ⟨M.le_pushQ _ _, fun _ _ h => h, fun i x e => by
    have : i ≠ s.fit.n := by rintro rfl; rw [H.m.freshF _ (Nat.le_refl _)] at e; cases e
    simp [Env.addF, this, e], fun _ _ h => h⟩
  refine ⟨hle, ⟨{ nI := hM.nI, nB := hM.nB, nS := hM.nS, nQ := by simp [Env.addF, M.pushQ, St.addF_eq, Sq.push, hM.nQ], rng := hM.rng, fit := ?_, frac := ?_, fresh := hM.fresh, freshF := ?_, freshC := hM.freshC, cls := ?_, oneC := hM.oneC }, H.h.later hle hb, H.l.later hle (.below hb)⟩⟩
  · intro i k' x e1 e2
    rcases Sq.get_push (q := s.fit) e1 with ⟨_, e1⟩ | ⟨e1, e3⟩ <;> rcases snoc_get e2 with e2 | ⟨e2, e4⟩
    · exact hM.fit i k' x e1 e2
    · have := Sq.get_lt e1; have := hM.nQ; omega
    · have := (List.getElem?_eq_some_iff.1 e2).1; have := hM.nQ; omega
    · subst e3; subst e4; exact hk
  · intro i x e
    simp only [Env.addF] at e
    split at e
    · rename_i he
      cases e
      subst he
      refine ⟨q, k, ?_, Sq.get_push_last _ _, hq⟩
      show (ρ.m.Q ++ [q])[s.fit.n]? = some q
      rw [← hM.nQ]; simp
    · obtain ⟨q', k', h1, h3, h2⟩ := hM.frac i x e
      exact ⟨q', k', getElem?_snoc _ _ _ _ h1, Sq.get_push_old h3, h2⟩
  · intro i hi
    have hi : s.fit.n + 1 ≤ i := hi
    simp only [Env.addF]
    rw [if_neg (by omega)]
    exact hM.freshF i (by omega)
  · intro i f caps e
    obtain ⟨cs, h1, h2⟩ := hM.cls i f caps e
    exact ⟨cs, h1, h2.mono fun _ _ => CRel.mono hle⟩
def Env.addC (ρ : Env) (i : Nat) (v : Value) : Env := { ρ with C := fun j => if j = i then some v else ρ.C j }
def St.addC (s : St) (f : FuncId) (caps : List CV) : St := St.rec (motive := fun _ => St) (fun rng nB nS fit nb heap ncl cls lps => ⟨rng, nB, nS, fit, nb, heap, ncl + 1, (ncl, (f, caps)) :: cls, lps⟩) s
theorem St.addC_eq (s : St) (f : FuncId) (caps : List CV) : s.addC f caps = { s with ncl := s.ncl + 1, cls := (s.ncl, (f, caps)) :: s.cls } := rfl
theorem SRel.pushC {ρ : Env} {s : St} {w : World} (H : SRel T w0 ρ s w) (f : FuncId) {caps : List CV} {cs : List Value} (hc : All2 (CRel ρ) caps cs) :
    ρ.le (ρ.addC s.ncl (.func (.func f) #[] cs.toArray)) ∧ SRel T w0 (ρ.addC s.ncl (.func (.func f) #[] cs.toArray)) (s.addC f caps) w := by
  have hM := H.m
  have hle : ρ.le (ρ.addC s.ncl (.func (.func f) #[] cs.toArray)) := ⟨.refl _, fun _ _ h => h, fun _ _ h => h, fun i x e => by
    have : i ≠ s.ncl := by rintro rfl; rw [H.m.freshC _ (Nat.le_refl _)] at e; cases e
    simp [Env.addC, this, e]⟩
  refine ⟨hle, ⟨{ nI := hM.nI, nB := hM.nB, nS := hM.nS, nQ := hM.nQ, rng := hM.rng, fit := hM.fit, frac := hM.frac, fresh := hM.fresh, freshF := hM.freshF, freshC := ?_, cls := ?_, oneC := ?_ }, H.h.later hle (Below.refl _ _), H.l.later hle (.refl _)⟩⟩
  · intro i hi
    simp only [St.addC_eq] at hi
    simp only [Env.addC]
    rw [if_neg (by omega)]
    exact hM.freshC i (by omega)
  · intro i g caps' e
    simp only [St.addC_eq, look] at e
    split at e
    · rename_i he
      cases e
      subst he
      exact ⟨cs, by simp [Env.addC], hc.mono fun _ _ => CRel.mono hle⟩
    · obtain ⟨cs', h1, h2⟩ := hM.cls i g caps' e
      exact ⟨cs', hle.2.2.2 _ _ h1, h2.mono fun _ _ => CRel.mono hle⟩
  · intro i v e
    simp only [Env.addC] at e
    split at e
    · cases e; exact ⟨_, _, _, rfl⟩
    · exact hM.oneC i v e
def St.addL (s : St) (e : LpE) : St := St.rec (motive := fun _ => St) (fun rng nB nS fit nb heap ncl cls lps => ⟨rng, nB, nS, fit, nb + 1, heap, ncl + 1, cls, (ncl, e) :: lps⟩) s
def St.setLs (s : St) (l : List (Nat × LpE)) : St := St.rec (motive := fun _ => St) (fun rng nB nS fit nb heap ncl cls _ => ⟨rng, nB, nS, fit, nb, heap, ncl, cls, l⟩) s
def LpE.setSt (e : LpE) (x : LS) : LpE := LpE.rec (motive := fun _ => LpE) (fun tmps ps asg body _ d => ⟨tmps, ps, asg, body, x, d⟩) e
theorem SRel.putObj {ρ : Env} {s : St} {w X : World} (H : SRel T w0 ρ s w) {g : Nat} {o : Obj} (h0 : w.heap[g]? = some o) (hc : ∀ cs t k, o ≠ .cells cs t k) (hg : w0.heap.size ≤ g) (hX : ∀ k, k ≠ g → X.heap[k]? = w.heap[k]?) (hs : X.heap.size = w.heap.size)
    (hb : Below w0.heap.size w X) {lps : List (Nat × LpE)} (hl : LRel w0 ρ lps X) : SRel T w0 ρ (s.setLs lps) X := by
  have hn : NoWB w g := fun i v e => by
    simp only [World.cell?, h0] at e
    cases o <;> simp at e
    exact absurd rfl (hc _ _ _)
  refine ⟨{ nI := H.m.nI, nB := H.m.nB, nS := H.m.nS, nQ := H.m.nQ, rng := H.m.rng, fit := H.m.fit, frac := ?_, fresh := H.m.fresh, freshF := H.m.freshF, freshC := H.m.freshC, cls := H.m.cls, oneC := H.m.oneC }, { below := H.h.below.trans hb, env := H.h.env, heap := ?_, inj := H.h.inj }, hl⟩
  · intro i t e
    obtain ⟨q, k, h1, h3, h2⟩ := H.m.frac i t e
    exact ⟨q, k, h1, h3, h2.put hn hX (Nat.le_of_eq hs.symm)⟩
  · intro i bi e
    have hh := H.h.heap i bi e
    refine ⟨fun eo => ?_, fun eo => ?_⟩
    · obtain ⟨g', cs', h1, h2, h3, h4, h5, h6⟩ := hh.1 eo
      have hne : g' ≠ g := by rintro rfl; rw [h0] at h2; cases h2; exact hc _ _ _ rfl
      exact ⟨g', cs', h1, (hX g' hne).trans h2, h3, h4, h5, h6⟩
    · obtain ⟨g', o', vs', h1, h2, h3, h4⟩ := hh.2 eo
      refine ⟨g', o', vs', h1, fun j v hv => ?_, h3, h4⟩
      have hne : g' ≠ g := by omega
      rw [← h2 j v hv]
      simp only [World.cell?]
      rw [hX g' hne]
theorem SRel.pushL {ρ : Env} {s : St} {w : World} (H : SRel T w0 ρ s w) {e : LpE} {r : Loop} (hd : e.d = s.nb) (hr : LpOk ρ e w.heap.size r) :
    let ρ' := (ρ.addBlk s.nb (w.heap.size, 0)).addC s.ncl (.func (.yield (w.heap.size + 1)) #[] #[])
    ρ.le ρ' ∧ ρ'.C s.ncl = some (.func (.yield (w.heap.size + 1)) #[] #[]) ∧ ρ'.blk s.nb = some (w.heap.size, 0) ∧ SRel T w0 ρ' (s.addL e) ((w.alloc (.deferred (some []))).alloc (.loop r)) := by
  intro ρ'
  have l1 := Env.le_addBlk (H.m.fresh s.nb (Nat.le_refl _)) (w.heap.size, 0)
  have l2 : (ρ.addBlk s.nb (w.heap.size, 0)).le ρ' := ⟨.refl _, fun _ _ h => h, fun _ _ h => h, fun i x ex => by
    have : i ≠ s.ncl := by rintro rfl; have := H.m.freshC _ (Nat.le_refl _); rw [show (ρ.addBlk s.nb (w.heap.size, 0)).C = ρ.C from rfl, this] at ex; cases ex
    show (if i = s.ncl then _ else _) = _
    rw [if_neg this]; exact ex⟩
  have hle := l1.trans l2
  have hb1 : Below w.heap.size w (w.alloc (.deferred (some []))) := (Below.refl _ _).alloc (Nat.le_refl _) _
  have hb : Below w.heap.size w ((w.alloc (.deferred (some []))).alloc (.loop r)) := hb1.alloc (by simp) _
  have hC : ρ'.C s.ncl = some (.func (.yield (w.heap.size + 1)) #[] #[]) := by
    show (if s.ncl = s.ncl then _ else _) = _
    rw [if_pos rfl]
  have hB : ρ'.blk s.nb = some (w.heap.size, 0) := by
    show (if s.nb = s.nb then _ else _) = _
    rw [if_pos rfl]
  have hM := H.m.world hb
  have hL1 : ((w.alloc (.deferred (some []))).alloc (.loop r)).heap[w.heap.size + 1]? = some (.loop r) := by
    have := World.alloc_heap_new (w.alloc (.deferred (some []))) (.loop r); rwa [World.size_alloc] at this
  have hK1 : ((w.alloc (.deferred (some []))).alloc (.loop r)).heap[w.heap.size]? = some (.deferred (some [])) :=
    (Below.heap_alloc _ _ _ (by simp)).trans (World.alloc_heap_new w _)
  have hold : LRel w0 ρ' s.lps ((w.alloc (.deferred (some []))).alloc (.loop r)) := H.l.later hle (.below hb)
  have far : ∀ i f, look s.lps i = some f → ∃ l D, ρ'.C i = some (.func (.yield l) #[] #[]) ∧ ρ'.blk f.d = some (D, 0) ∧ l < w.heap.size ∧ D < w.heap.size := by
    intro i f hi
    obtain ⟨l, D, r', h1, h2, _, _, h5, h6, _⟩ := H.l.at_ i f hi
    exact ⟨l, D, hle.2.2.2 _ _ h1, hle.2.1 _ _ h2, lt_of_heap h5, lt_of_heap h6⟩
  refine ⟨hle, hC, hB, ⟨{ nI := hM.nI, nB := hM.nB, nS := hM.nS, nQ := hM.nQ, rng := hM.rng, fit := hM.fit, frac := hM.frac, fresh := ?_, freshF := hM.freshF, freshC := ?_, cls := ?_, oneC := ?_ }, H.h.later hle hb, ⟨?_, ?_, ?_⟩⟩⟩
  · intro id hid
    have hid : s.nb + 1 ≤ id := hid
    show (if id = s.nb then _ else ρ.blk id) = none
    rw [if_neg (by omega)]
    exact hM.fresh id (by omega)
  · intro i hi
    have hi : s.ncl + 1 ≤ i := hi
    show (if i = s.ncl then _ else ρ.C i) = none
    rw [if_neg (by omega)]
    exact hM.freshC i (by omega)
  · intro i f caps e
    obtain ⟨cs', h1, h2⟩ := hM.cls i f caps e
    exact ⟨cs', hle.2.2.2 _ _ h1, h2.mono fun _ _ => CRel.mono hle⟩
  · intro i v ev
    have ev : (if i = s.ncl then some (Value.func (.yield (w.heap.size + 1)) #[] #[]) else ρ.C i) = some v := ev
    split at ev
    · cases ev; exact ⟨_, _, _, rfl⟩
    · exact hM.oneC i v ev
  · intro i f hi
    have hi : look ((s.ncl, e) :: s.lps) i = some f := hi
    simp only [look] at hi
    split at hi
    · rename_i he
      cases hi; subst he
      exact ⟨_, _, r, hC, hd ▸ hB, by have := H.h.below.size; omega, H.h.below.size, hL1, hK1, { hr with tr := hr.tr.mono hle }⟩
    · exact hold.at_ i f hi
  · intro i j f g l hi hj ei ej
    have hi : look ((s.ncl, e) :: s.lps) i = some f := hi
    have hj : look ((s.ncl, e) :: s.lps) j = some g := hj
    simp only [look] at hi hj
    have no : ∀ k h, look s.lps k = some h → ρ'.C k = some (.func (.yield (w.heap.size + 1)) #[] #[]) → False := by
      intro k h hk ek
      obtain ⟨l', D, h1, _, h3, _⟩ := far k h hk
      rw [ek] at h1; cases h1; omega
    split at hi
    · rename_i he
      subst he
      rw [hC] at ei; cases ei
      split at hj
      · rename_i he; exact he.symm
      · exact (no j g hj ej).elim
    · split at hj
      · rename_i he
        subst he
        rw [hC] at ej; cases ej
        exact (no i f hi ei).elim
      · exact hold.injL i j f g l hi hj ei ej
  · intro i j f g D hi hj ei ej
    have hi : look ((s.ncl, e) :: s.lps) i = some f := hi
    have hj : look ((s.ncl, e) :: s.lps) j = some g := hj
    simp only [look] at hi hj
    have no : ∀ k h, look s.lps k = some h → ρ'.blk h.d = some (w.heap.size, 0) → False := by
      intro k h hk ek
      obtain ⟨l', D', _, h2, _, h4⟩ := far k h hk
      rw [ek] at h2; cases h2; omega
    split at hi
    · cases hi
      rw [hd, hB] at ei; cases ei
      split at hj
      · cases hj; rfl
      · exact (no j g hj ej).elim
    · split at hj
      · cases hj
        rw [hd, hB] at ej; cases ej
        exact (no i f hi ei).elim
      · exact hold.injD i j f g D hi hj ei ej
theorem below_putObj {B l : Nat} (w : World) (o : Obj) (h : B ≤ l) : Below B w (w.putObj l o) := ⟨rfl, rfl, rfl, Nat.le_of_eq World.putObj_size.symm, fun k hk => World.putObj_heap_other (by omega)⟩
theorem SRel.setL {ρ : Env} {s : St} {w : World} (H : SRel T w0 ρ s w) {i : Nat} {e : LpE} (hi : look s.lps i = some e) {l : Nat} {r r' : Loop} (hC : ρ.C i = some (.func (.yield l) #[] #[])) (hl : w.heap[l]? = some (.loop r)) {x : LS}
    (hr : ∀ D, LpOk ρ e D r → LpOk ρ (e.setSt x) D r') : SRel T w0 ρ (s.setLs (upd s.lps i (e.setSt x))) (w.putObj l (.loop r')) := by
  obtain ⟨l1, D, r1, h1, h2, h3, h4, h5, h6, h7⟩ := H.l.at_ i e hi
  rw [hC] at h1; cases h1
  rw [hl] at h5; cases h5
  have hlt := lt_of_heap hl
  have back : ∀ j f, look (upd s.lps i (e.setSt x)) j = some f → ∃ f', look s.lps j = some f' ∧ f'.d = f.d := by
    intro j f hj
    by_cases e1 : j = i
    · subst e1; rw [look_upd_same hi] at hj; cases hj; exact ⟨e, hi, rfl⟩
    · rw [look_upd_other e1] at hj; exact ⟨f, hj, rfl⟩
  refine H.putObj hl (fun _ _ _ e => by cases e) h3 (fun k hk => World.putObj_heap_other hk) World.putObj_size (below_putObj w _ h3) ⟨fun j f hj => ?_, fun j k f g l' hj hk ej ek => ?_, fun j k f g D' hj hk ej ek => ?_⟩
  · by_cases e1 : j = i
    · subst e1
      rw [look_upd_same hi] at hj; cases hj
      refine ⟨l, D, r', hC, h2, h3, h4, World.putObj_heap_same hlt, ?_, hr D h7⟩
      rw [World.putObj_heap_other (by rintro rfl; rw [hl] at h6; cases h6)]; exact h6
    · rw [look_upd_other e1] at hj
      obtain ⟨l2, D2, r2, k1, k2, k3, k4, k5, k6, k7⟩ := H.l.at_ j f hj
      refine ⟨l2, D2, r2, k1, k2, k3, k4, ?_, ?_, k7⟩
      · rw [World.putObj_heap_other (by rintro rfl; exact e1 (H.l.injL j i f e _ hj hi k1 hC))]; exact k5
      · rw [World.putObj_heap_other (by rintro rfl; rw [hl] at k6; cases k6)]; exact k6
  · obtain ⟨f', hf, _⟩ := back j f hj
    obtain ⟨g', hg, _⟩ := back k g hk
    exact H.l.injL j k f' g' l' hf hg ej ek
  · obtain ⟨f', hf, e1⟩ := back j f hj
    obtain ⟨g', hg, e2⟩ := back k g hk
    rw [← e1] at ej; rw [← e2] at ek
    rw [← e1, ← e2]
    exact H.l.injD j k f' g' D' hf hg ej ek
end
end Go.Proofs.VM
namespace Go.Proofs.VM
open Go.RowKit
noncomputable section
variable {T : FT} {w0 : World} {P : Program}
def ofCell : Value → Option CV
  | .bool b => some (.bl b)
  | .int k n => some (.il k n)
  | .string s => some (.sl s.data.toList)
  | .pointer none => some .npt
  | .nilFunc => some .nfn
  | .slice none 0 0 => some .nsl
  | .func (.func f) a b => if a.size = 0 ∧ b.size = 0 then some (.fn f) else none
  | .float k b => some (.fl k b)
  | .complex k r i => some (.cx k r i)
  | _ => none
theorem ofCell_rel (ρ : Env) {v : Value} {x : CV} (h : ofCell v = some x) : CRel ρ x v := by
  cases v with
  | bool b => cases h; rfl
  | int k n => cases h; rfl
  | float k b => cases h; rfl
  | complex k r i => cases h; rfl
  | string s => cases h; show Value.string s = _; simp
  | pointer a => cases a with
    | none => cases h; rfl
    | some a => cases h
  | slice a n c =>
    cases a with
    | some a => cases h
    | none =>
      cases n with
      | succ n => cases h
      | zero => cases c with
        | succ c => cases h
        | zero => cases h; rfl
  | func fn a b =>
    cases fn with
    | func f =>
      simp only [ofCell] at h
      split at h
      · rename_i hab
        cases h
        obtain ⟨ha, hb⟩ := hab
        have ha' : a = #[] := Array.eq_empty_of_size_eq_zero ha
        have hb' : b = #[] := Array.eq_empty_of_size_eq_zero hb
        subst ha'; subst hb'
        rfl
      · cases h
    | _ => cases h
  | nilFunc => cases h; rfl
  | _ => cases h
def ofCells : List Value → Option (List CV)
  | [] => some []
  | v :: l => match ofCell v, ofCells l with
    | some x, some k => some (x :: k)
    | _, _ => none
theorem ofCells_rel (ρ : Env) : ∀ {l : List Value} {k : List CV}, ofCells l = some k → All2 (CRel ρ) k l
  | [], k, h => by cases h; trivial
  | v :: l, k, h => by
    simp only [ofCells] at h
    split at h
    · rename_i x k' e1 e2
      cases h
      exact ⟨ofCell_rel ρ e1, ofCells_rel ρ e2⟩
    · cases h
def ofValue : Value → Option TV
  | .agg cs => (ofCells cs.toList).map fun l => .v (.agg l)
  | .tuple vs => if vs.size = 0 then some (.tup []) else none
  | v => (ofCell v).map fun x => .v (.c x)
theorem ofValue_rel (ρ : Env) {v : Value} {t : TV} (h : ofValue v = some t) : TRel ρ t v := by
  have base : ∀ v, (ofCell v).map (fun x => TV.v (.c x)) = some t → TRel ρ t v := by
    intro v h
    obtain ⟨x, e, rfl⟩ := Option.map_eq_some_iff.1 h
    exact ofCell_rel ρ e
  cases v with
  | agg cs =>
    obtain ⟨x, e, rfl⟩ := Option.map_eq_some_iff.1 h
    exact ⟨cs.toList, by simp, ofCells_rel ρ e⟩
  | tuple vs =>
    simp only [ofValue] at h
    split at h
    · rename_i hz
      cases h
      exact ⟨[], by rw [Array.eq_empty_of_size_eq_zero hz], trivial⟩
    · cases h
  | _ => exact base _ h
def evalO (tmps : TL) : Operand → Option TV
  | .tmp t => tmps.get t
  | .const v => ofValue v
  | .global _ => none
  | .func f => some (.v (.c (.fn f)))
theorem evalO_rel {ρ : Env} {tmps : TL} {a : Act} (h : TmR ρ tmps a.tmps.toList) {o : Operand} {t : TV} (e : evalO tmps o = some t) : TRel ρ t (a.eval o) := by
  cases o with
  | tmp i =>
    obtain ⟨y, h1, h2⟩ := h.get e
    have : a.eval (.tmp i) = y := by
      show a.tmps.getD i undef = y
      rw [Array.getElem?_toList] at h1
      rw [Array.getD_eq_getD_getElem?, h1]; rfl
    rw [this]; exact h2
  | const v => exact ofValue_rel ρ e
  | global g => cases e
  | func f => cases e; rfl
def evalA (tmps : TL) (o : Operand) : Option AV :=
  match evalO tmps o with
  | some (.v a) => some a
  | _ => none
theorem evalA_rel {ρ : Env} {tmps : TL} {a : Act} (h : TmR ρ tmps a.tmps.toList) {o : Operand} {x : AV} (e : evalA tmps o = some x) : ARel ρ x (a.eval o) := by
  unfold evalA at e
  split at e
  · rename_i y hy; cases e; exact evalO_rel h hy
  · cases e
def evalC (tmps : TL) (o : Operand) : Option CV :=
  match evalO tmps o with
  | some (.v (.c a)) => some a
  | _ => none
theorem evalC_rel {ρ : Env} {tmps : TL} {a : Act} (h : TmR ρ tmps a.tmps.toList) {o : Operand} {x : CV} (e : evalC tmps o = some x) : CRel ρ x (a.eval o) := by
  unfold evalC at e
  split at e
  · rename_i y hy; cases e; exact evalO_rel h hy
  · cases e
def AV.cells : AV → List CV
  | .c x => [x]
  | .agg l => l
theorem cells_one {v : Value} (h : v.oneCell' = true) : v.cells = #[v] := by cases v <;> first | rfl | (simp [Value.oneCell'] at h)
theorem ARel.cells {ρ : Env} {s : St} {w : World} (H : MRel T ρ s w) : ∀ {a : AV} {v : Value}, ARel ρ a v → All2 (CRel ρ) a.cells v.cells.toList
  | .c x, v, h => by rw [cells_one (CRel.one H h)]; exact ⟨h, trivial⟩
  | .agg l, v, ⟨vs, e, h⟩ => by subst e; simpa [AV.cells, Value.cells] using h
def VOk (T : FT) (w0 : World) (P : Program) (ρ : Env) (w : World) (sem : Sem Value) (t : Tree (TV × St)) : Prop :=
  ∀ K, t.vc T.txt ρ.m K → ∃ ρ' tv s' v w', K (tv, s') ρ'.m ∧ ρ.le ρ' ∧ SRel T w0 ρ' s' w' ∧ TRel ρ' tv v ∧ sem.run P w = .ok v w'
theorem VOk.fail {ρ : Env} {w : World} {sem : Sem Value} {why : String} : VOk T w0 P ρ w sem (.fail why) := fun _ h => h.elim
theorem VOk.leaf {ρ : Env} {w : World} {sem : Sem Value} {tv : TV} {s : St} {v : Value} (H : SRel T w0 ρ s w) (ht : TRel ρ tv v) (hr : sem.run P w = .ok v w) : VOk T w0 P ρ w sem (.leaf (tv, s)) :=
  fun _ h => ⟨ρ, tv, s, v, w, h, .refl _, H, ht, hr⟩
theorem VOk.congr {ρ : Env} {w : World} {sem sem' : Sem Value} {t : Tree (TV × St)} (h : VOk T w0 P ρ w sem t) (e : sem'.run P w = sem.run P w) : VOk T w0 P ρ w sem' t := fun K hK => by
  obtain ⟨ρ', tv, s', v, w', h1, h2, h3, h4, h5⟩ := h K hK
  exact ⟨ρ', tv, s', v, w', h1, h2, h3, h4, e.trans h5⟩
def VPure (T : FT) (w0 : World) (P : Program) (ρ : Env) (s : St) (sem : Sem Value) (t : Tree (TV × St)) : Prop :=
  ∀ K, t.vc T.txt ρ.m K → ∃ ρ' tv s' v, K (tv, s') ρ'.m ∧ ρ.le ρ' ∧ ρ'.blk = ρ.blk ∧ ρ'.F = ρ.F ∧ s'.heap = s.heap ∧ (∀ w1, SRel T w0 ρ s w1 → SRel T w0 ρ' s' w1) ∧ TRel ρ' tv v ∧ ∀ w1, sem.run P w1 = .ok v w1
theorem VPure.fail {ρ : Env} {s : St} {sem : Sem Value} {why : String} : VPure T w0 P ρ s sem (.fail why) := fun _ h => h.elim
theorem VPure.leaf {ρ : Env} {sem : Sem Value} {tv : TV} {s : St} {v : Value} (ht : TRel ρ tv v) (hr : ∀ w1, sem.run P w1 = .ok v w1) : VPure T w0 P ρ s sem (.leaf (tv, s)) :=
  fun _ h => ⟨ρ, tv, s, v, h, .refl _, rfl, rfl, rfl, fun _ h => h, ht, hr⟩
theorem VPure.ok {ρ : Env} {s : St} {w : World} {sem : Sem Value} {t : Tree (TV × St)} (H : SRel T w0 ρ s w) (h : VPure T w0 P ρ s sem t) : VOk T w0 P ρ w sem t := fun K hK => by
  obtain ⟨ρ', tv, s', v, h1, h2, _, _, _, h3, h4, h5⟩ := h K hK
  exact ⟨ρ', tv, s', v, w, h1, h2, h3 w H, h4, h5 w⟩
theorem VPure.congr {ρ : Env} {s : St} {sem sem' : Sem Value} {t : Tree (TV × St)} (h : VPure T w0 P ρ s sem t) (e : ∀ w, sem'.run P w = sem.run P w) : VPure T w0 P ρ s sem' t := fun K hK => by
  obtain ⟨ρ', tv, s', v, h1, h2, a, b, c, h3, h4, h5⟩ := h K hK
  exact ⟨ρ', tv, s', v, h1, h2, a, b, c, h3, h4, fun w1 => (e w1).trans (h5 w1)⟩
def sizeT (P : Program) (t : TypeId) : Option Nat := (P.info? t).map (·.size)
def rowT (P : Program) (t : TypeId) : Option Bool :=
  match P.underlying t with
  | some (.struct _) => some true
  | some (.array _ _) => some true
  | some _ => some false
  | none => none
def zeroT (P : Program) (t : TypeId) : Option Value := (P.info? t).bind (·.zero)
theorem run_sizeOf' {t : TypeId} {n : Nat} (h : sizeT P t = some n) (w : World) : (sizeOf t).run P w = .ok n w := by
  obtain ⟨i, e, rfl⟩ := Option.map_eq_some_iff.1 h
  simp [sizeOf, typeInfo, e]
theorem run_isAgg' {t : TypeId} {b : Bool} (h : rowT P t = some b) (w : World) : (isAgg t).run P w = .ok b w := by
  unfold rowT at h
  unfold isAgg
  rw [Sem.run_bind]
  cases e : P.underlying t with
  | none => simp [e] at h
  | some d =>
    rw [run_underlying e w, Result.andThen_ok]
    cases d <;> simp_all
theorem run_zeroValue' {t : TypeId} {v : Value} (h : zeroT P t = some v) (w : World) : (zeroValue t).run P w = .ok v w := by
  obtain ⟨i, e, h2⟩ := Option.bind_eq_some_iff.1 h
  simp [zeroValue, typeInfo, e, h2]
def aLoad (P : Program) (s : St) (t : TypeId) : CV → Option AV
  | .pt b off => match look s.heap b, rowT P t with
    | some blk, some true => match sizeT P t with
      | some n => if off + n ≤ blk.cells.length then some (.agg ((blk.cells.drop off).take n)) else none
      | none => none
    | some blk, some false => (blk.cells[off]?).map .c
    | _, _ => none
  | _ => none
theorem BlkAt.range {ρ : Env} {w : World} {id : Nat} {b : Blk} (h : BlkAt w0 ρ w id b) : ∃ g o vs, ρ.blk id = some (g, o) ∧ w.rangeAt g o vs ∧ All2 (CRel ρ) b.cells vs := by
  cases e : b.own with
  | true =>
    obtain ⟨g, cs, h1, h2, h3, _⟩ := h.1 e
    refine ⟨g, 0, cs.toList.take b.cells.length, h1, fun j v hv => ?_, h3⟩
    rw [List.getElem?_take] at hv
    split at hv
    · rw [Nat.zero_add, World.cell?_of_block (w := w) (w' := { w with heap := w.heap }) rfl]
      simp only [World.cell?, h2]
      simpa using hv
    · cases hv
  | false => obtain ⟨g, o, vs, h1, h2, h3, _⟩ := h.2 e; exact ⟨g, o, vs, h1, h2, h3⟩
theorem rangeAt_part {w : World} {g o off n : Nat} {vs : List Value} (h : w.rangeAt g o vs) : w.rangeAt g (o + off) ((vs.drop off).take n) := fun j v hv => by
  rw [List.getElem?_take] at hv
  split at hv
  · rw [List.getElem?_drop] at hv
    have := h (off + j) v hv
    rwa [← Nat.add_assoc] at this
  · cases hv
theorem aLoad_ok {ρ : Env} {s : St} {w : World} (H : SRel T w0 ρ s w) {t : TypeId} {x : CV} {v : Value} (hx : CRel ρ x v) {y : AV} (e : aLoad P s t x = some y) :
    ∃ u, (Instr.loadAt t v).run P w = .ok u w ∧ ARel ρ y u := by
  unfold aLoad at e
  split at e
  · rename_i b off
    obtain ⟨g, o, hb, rfl⟩ := hx
    split at e
    · rename_i blk hl hr
      split at e
      · rename_i n hn
        split at e
        · rename_i hle
          cases e
          obtain ⟨g', o', vs, h1, h2, h3⟩ := (H.h.heap b blk hl).range
          rw [hb] at h1
          cases h1
          have hlen := h3.length
          have hpart := rangeAt_part (off := off) (n := n) h2
          have hl2 : ((vs.drop off).take n).length = n := by simp; omega
          refine ⟨.agg ((vs.drop off).take n).toArray, ?_, _, rfl, (h3.drop off).take n⟩
          simp only [Instr.loadAt, Instr.sureAddr, Sem.run_bind, Sem.run_pure, Result.andThen_ok, loadVar, run_isAgg' hr, if_true, run_sizeOf' hn]
          have := run_loadCells_list (P := P) w ⟨g, o + off, none⟩ ((vs.drop off).take n) (fun j v hv => by rw [Addr.add_mid]; exact hpart j v hv)
          rw [hl2] at this
          rw [this]
          rfl
        · cases e
      · cases e
    · rename_i blk hl hr
      obtain ⟨z, hz, rfl⟩ := Option.map_eq_some_iff.1 e
      obtain ⟨g', o', vs, h1, h2, h3⟩ := (H.h.heap b blk hl).range
      rw [hb] at h1
      cases h1
      obtain ⟨u, hu, hr2⟩ := h3.get hz
      refine ⟨u, ?_, hr2⟩
      have hc := h2 off u hu
      simp [Instr.loadAt, Instr.sureAddr, loadVar, run_isAgg' hr, hc]
    · cases e
  · cases e
def aStore (P : Program) (s : St) (t : TypeId) : CV → AV → Option St
  | .pt b off, x => match look s.heap b, sizeT P t with
    | some blk, some n => if blk.own = true ∧ x.cells.length = n ∧ off + n ≤ blk.cells.length ∧ ((blk.cells.all (·.noW) = true ∧ x.cells.all (·.noW) = true) ∨ (s.fit.n = 0 ∧ (setsL blk.cells off x.cells).all (·.noW) = false)) then
        some (s.setHeap (upd s.heap b { blk with cells := setsL blk.cells off x.cells })) else none
    | _, _ => none
  | _, _ => none
theorem aStore_ok {ρ : Env} {s : St} {w : World} (H : SRel T w0 ρ s w) {t : TypeId} {x : CV} {v : Value} (hx : CRel ρ x v) {y : AV} {u : Value} (hy : ARel ρ y u) {s' : St} (e : aStore P s t x y = some s') :
    ∃ w', (Instr.storeAt t v u).run P w = .ok () w' ∧ SRel T w0 ρ s' w' ∧ ∀ g', (∀ id b, look s.heap id = some b → b.own = true → ρ.blk id ≠ some (g', 0)) → w'.heap[g']? = w.heap[g']? := by
  unfold aStore at e
  split at e
  · rename_i b off
    obtain ⟨g, o, hb, rfl⟩ := hx
    split at e
    · rename_i blk n hl hn
      split at e
      · rename_i hc
        cases e
        obtain ⟨ho, hlen, hle, hnw⟩ := hc
        obtain ⟨g', cs, h1, h2, h3, h4, h5, h6⟩ := (H.h.heap b blk hl).1 ho
        rw [hb] at h1
        cases h1
        have hcells := ARel.cells H.m hy
        have hl1 := hcells.length
        have hl2 := h3.length
        have hcell : ∀ i, i < cs.size → (w.cell? ⟨g, i, none⟩).isSome = true ∧ w.frozen? ⟨g, i, none⟩ = false := by
          intro i hi
          simp only [World.cell?, World.frozen?, h2]
          simp [hi]
        refine ⟨w.setCells g off u.cells.toList, ?_, H.store hl ho hb h2 h3 h4 h5 h6 hcells off hnw, fun g' hg' => heap_setCells_off g (fun e => hg' b blk hl ho (by rw [e]; exact hb)) _ _ _⟩
        simp only [Instr.storeAt, Instr.sureAddr, Sem.run_bind, Sem.run_pure, Result.andThen_ok, storeVar, run_sizeOf' hn]
        have hsz : u.cells.size = n := by rw [← Array.length_toList]; omega
        rw [if_neg (by simp [hsz])]
        have hcs : blk.cells.length ≤ cs.size := by rw [← Array.length_toList]; rw [List.length_take] at hl2; omega
        have := run_storeCells_cells (P := P) g off u.cells.toList 0 w (fun j hj => (hcell _ (by rw [Nat.add_zero]; omega)).1) (fun j hj => (hcell _ (by rw [Nat.add_zero]; omega)).2) (All2.ones H.m hcells)
        rw [Nat.add_zero] at this
        rw [Nat.zero_add]
        exact this
      · cases e
    · cases e
  · cases e
theorem run_newVar (t : TypeId) (v : Value) (w : World) : (newVar t v).run P w = .ok ⟨w.heap.size, 0, none⟩ (w.alloc (.cells v.cells t)) := rfl
def aAlloc (P : Program) (s : St) (t : TypeId) : Option (TV × St) :=
  match zeroT P t with
  | some z => match ofCells z.cells.toList with
    | some l => some (.v (.c (.pt s.nb 0)), s.new t l)
    | none => none
  | none => none
theorem aAlloc_ok {ρ : Env} {s : St} {w : World} (H : SRel T w0 ρ s w) {t : TypeId} {x : TV × St} (e : aAlloc P s t = some x) : VOk T w0 P ρ w (Instr.alloc t true (.tuple #[])) (.leaf x) := by
  intro K hK
  unfold aAlloc at e
  split at e
  · rename_i z hz
    split at e
    · rename_i l hl
      cases e
      obtain ⟨h1, h2⟩ := H.alloc t (ofCells_rel ρ hl)
      refine ⟨ρ.addBlk s.nb (w.heap.size, 0), _, _, .pointer (some ⟨w.heap.size, 0, none⟩), _, hK, h1, h2, ⟨w.heap.size, 0, by simp [Env.addBlk], rfl⟩, ?_⟩
      simp [Instr.alloc, run_zeroValue' hz, run_newVar]
    · cases e
  · cases e
def aBox (s : St) (t : TypeId) (x : AV) : Option (TV × St) := some (.v (.c (.pt s.nb 0)), s.new t x.cells)
theorem aBox_ok {ρ : Env} {s : St} {w : World} (H : SRel T w0 ρ s w) {t : TypeId} {y : AV} {u : Value} (hy : ARel ρ y u) {x : TV × St} (e : aBox s t y = some x) : VOk T w0 P ρ w (Instr.box t u) (.leaf x) := by
  intro K hK
  unfold aBox at e
  cases e
  obtain ⟨h1, h2⟩ := H.alloc t (ARel.cells H.m hy)
  refine ⟨ρ.addBlk s.nb (w.heap.size, 0), _, _, .pointer (some ⟨w.heap.size, 0, none⟩), _, hK, h1, h2, ⟨w.heap.size, 0, by simp [Env.addBlk], rfl⟩, ?_⟩
  simp [Instr.box, run_newVar]
def aFieldAddr (P : Program) (t : TypeId) (f : Nat) : CV → Option CV
  | .pt b off => match P.underlying t with
    | some (.struct fs) => match fs[f]? with
      | some d => match sizeT P d.type with
        | some (_ + 1) => some (.pt b (off + d.offset))
        | _ => none
      | none => none
    | _ => none
  | _ => none
theorem aFieldAddr_ok {ρ : Env} {t : TypeId} {f : Nat} {x y : CV} {v : Value} (hx : CRel ρ x v) (e : aFieldAddr P t f x = some y) : ∃ u, (∀ w, (Instr.fieldAt t v f).run P w = .ok u w) ∧ CRel ρ y u := by
  unfold aFieldAddr at e
  split at e
  · rename_i b off
    obtain ⟨g, o, hb, rfl⟩ := hx
    split at e
    · rename_i fs hu
      split at e
      · rename_i d hd
        split at e
        · rename_i n hn
          cases e
          refine ⟨.pointer (some ⟨g, o + (off + d.offset), none⟩), fun w => ?_, g, o, hb, rfl⟩
          simp only [Instr.fieldAt, Sem.run_bind, run_underlying hu, Result.andThen_ok, hd, Instr.sureAddr, Sem.run_pure, fieldPlace, run_sizeOf' hn]
          rw [if_neg (by omega)]
          simp [Addr.add_mid, Nat.add_assoc]
        · cases e
      · cases e
    · cases e
  · cases e
def aPart (P : Program) (t : TypeId) (l : List CV) (off : Nat) : Option AV :=
  match rowT P t with
  | some true => match sizeT P t with
    | some n => some (.agg ((l.drop off).take n))
    | none => none
  | some false => (l[off]?).map .c
  | none => none
theorem aPart_ok {ρ : Env} {t : TypeId} {l : List CV} {vs : List Value} {off : Nat} {y : AV} (h : All2 (CRel ρ) l vs) (e : aPart P t l off = some y) : ∃ u, (∀ w, (part t vs.toArray off).run P w = .ok u w) ∧ ARel ρ y u := by
  unfold aPart at e
  split at e
  · rename_i hr
    split at e
    · rename_i n hn
      cases e
      refine ⟨.agg ((vs.drop off).take n).toArray, fun w => ?_, _, rfl, (h.drop off).take n⟩
      simp only [part, Sem.run_bind, run_isAgg' hr, Result.andThen_ok, if_true, run_sizeOf' hn, Sem.run_pure]
      congr 2
      apply Array.toList_inj.1
      simp
    · cases e
  · rename_i hr
    obtain ⟨z, hz, rfl⟩ := Option.map_eq_some_iff.1 e
    obtain ⟨u, hu, h2⟩ := h.get hz
    refine ⟨u, fun w => ?_, h2⟩
    have : vs.toArray[off]? = some u := by simpa using hu
    simp [part, run_isAgg' hr, this]
  · cases e
def aField (P : Program) (t : TypeId) (f : Nat) : AV → Option AV
  | .agg l => match P.underlying t with
    | some (.struct fs) => match fs[f]? with
      | some d => aPart P d.type l d.offset
      | none => none
    | _ => none
  | _ => none
theorem aField_ok {ρ : Env} {t : TypeId} {f : Nat} {x y : AV} {v : Value} (hx : ARel ρ x v) (e : aField P t f x = some y) : ∃ u, (∀ w, (Instr.field t v f).run P w = .ok u w) ∧ ARel ρ y u := by
  unfold aField at e
  split at e
  · obtain ⟨vs, rfl, h⟩ := hx
    split at e
    · rename_i fs hu
      split at e
      · rename_i d hd
        obtain ⟨u, h1, h2⟩ := aPart_ok h e
        refine ⟨u, fun w => ?_, h2⟩
        simp [Instr.field, run_underlying hu, hd, asAgg, h1]
      · cases e
    · cases e
  · cases e
def aIndexAddr (P : Program) (t : TypeId) : CV → CV → Option CV
  | .pt b off, .il _ i => match P.underlying t with
    | some (.array n el) => match sizeT P el with
      | some z => if 0 ≤ i ∧ i < n then some (.pt b (off + i.toNat * z)) else none
      | none => none
    | _ => none
  | .sc b off n _, .il _ i => match P.underlying t with
    | some (.slice el) => match sizeT P el with
      | some z => if 0 ≤ i ∧ i < n then some (.pt b (off + i.toNat * z)) else none
      | none => none
    | _ => none
  | .sr b off n _ _, .il _ i => match P.underlying t with
    | some (.slice el) => match sizeT P el with
      | some z => if 0 ≤ i ∧ i < n then some (.pt b (off + i.toNat * z)) else none
      | none => none
    | _ => none
  | .sg b off n _, .il _ i => match P.underlying t with
    | some (.slice el) => match sizeT P el with
      | some z => if 0 ≤ i ∧ i < n then some (.pt b (off + i.toNat * z)) else none
      | none => none
    | _ => none
  | _, _ => none
theorem aIndexAddr_ok {ρ : Env} {t : TypeId} {x i y : CV} {v u : Value} (hx : CRel ρ x v) (hi : CRel ρ i u) (e : aIndexAddr P t x i = some y) : ∃ r, (∀ w, (Instr.indexAt t v u).run P w = .ok r w) ∧ CRel ρ y r := by
  unfold aIndexAddr at e
  split at e
  · rename_i b off k i
    obtain ⟨g, o, hb, rfl⟩ := hx
    cases (hi : u = _)
    split at e
    · rename_i n el hu
      split at e
      · rename_i z hz
        split at e
        · rename_i hin
          cases e
          refine ⟨.pointer (some ⟨g, o + (off + i.toNat * z), none⟩), fun w => ?_, g, o, hb, rfl⟩
          simp [Instr.indexAt, asIntOf, run_underlying hu, Instr.sureAddr, hin, run_sizeOf' hz, Addr.add_mid, Nat.add_assoc]
        · cases e
      · cases e
    · cases e
  · rename_i b off n c k i
    obtain ⟨g, o, hb, rfl⟩ := hx
    cases (hi : u = _)
    split at e
    · rename_i el hu
      split at e
      · rename_i z hz
        split at e
        · rename_i hin
          cases e
          refine ⟨.pointer (some ⟨g, o + (off + i.toNat * z), none⟩), fun w => ?_, g, o, hb, rfl⟩
          simp [Instr.indexAt, asIntOf, run_underlying hu, hin, run_sizeOf' hz, Addr.add_mid, Nat.add_assoc]
        · cases e
      · cases e
    · cases e
  · rename_i b off n ic dc k i
    obtain ⟨g, o, kc, hb, _, _, rfl⟩ := hx
    cases (hi : u = _)
    split at e
    · rename_i el hu
      split at e
      · rename_i z hz
        split at e
        · rename_i hin
          cases e
          refine ⟨.pointer (some ⟨g, o + (off + i.toNat * z), none⟩), fun w => ?_, g, o, hb, rfl⟩
          simp [Instr.indexAt, asIntOf, run_underlying hu, hin, run_sizeOf' hz, Addr.add_mid, Nat.add_assoc]
        · cases e
      · cases e
    · cases e
  · rename_i b off n dc k i
    obtain ⟨g, o, kc, zc, hb, _, _, rfl⟩ := hx
    cases (hi : u = _)
    split at e
    · rename_i el hu
      split at e
      · rename_i z hz
        split at e
        · rename_i hin
          cases e
          refine ⟨.pointer (some ⟨g, o + (off + i.toNat * z), none⟩), fun w => ?_, g, o, hb, rfl⟩
          simp [Instr.indexAt, asIntOf, run_underlying hu, hin, run_sizeOf' hz, Addr.add_mid, Nat.add_assoc]
        · cases e
      · cases e
    · cases e
  · cases e
def aIndex (P : Program) (t : TypeId) : AV → CV → Option AV
  | .agg l, .il _ i => match P.underlying t with
    | some (.array n el) => match sizeT P el with
      | some z => if 0 ≤ i ∧ i < n then aPart P el l (i.toNat * z) else none
      | none => none
    | _ => none
  | .c (.sl s), .il _ i => match P.underlying t with
    | some .string => if 0 ≤ i then match s[i.toNat]? with
      | some b => some (.c (.il .u8 (b.toNat : Nat)))
      | none => none
      else none
    | _ => none
  | _, _ => none
theorem aIndex_ok {ρ : Env} {t : TypeId} {x y : AV} {i : CV} {v u : Value} (hx : ARel ρ x v) (hi : CRel ρ i u) (e : aIndex P t x i = some y) : ∃ r, (∀ w, (Instr.index t v u).run P w = .ok r w) ∧ ARel ρ y r := by
  unfold aIndex at e
  split at e
  · rename_i l k i
    obtain ⟨vs, rfl, h⟩ := hx
    cases (hi : u = _)
    split at e
    · rename_i n el hu
      split at e
      · rename_i z hz
        split at e
        · rename_i hin
          obtain ⟨r, h1, h2⟩ := aPart_ok h e
          refine ⟨r, fun w => ?_, h2⟩
          simp [Instr.index, asIntOf, run_underlying hu, hin, run_sizeOf' hz, h1]
        · cases e
      · cases e
    · cases e
  · rename_i s k i
    cases (hx : v = _)
    cases (hi : u = _)
    split at e
    · rename_i hu
      split at e
      · rename_i h0
        split at e
        · rename_i b hb
          cases e
          refine ⟨.int .u8 (b.toNat : Nat), fun w => ?_, rfl⟩
          obtain ⟨hlt, hb⟩ := List.getElem?_eq_some_iff.1 hb
          have hin : 0 ≤ i ∧ i < (((⟨s.toArray⟩ : ByteArray).size : Nat) : Int) := ⟨h0, by show i < ((s.toArray.size : Nat) : Int); simp; omega⟩
          rw [run_index_string w t _ _ _ hu, dif_pos hin]
          have : (⟨s.toArray⟩ : ByteArray)[i.toNat]'(by have := hin.2; omega) = b := by show s.toArray[i.toNat]'_ = b; simpa using hb
          rw [this]
        · cases e
      · cases e
    · cases e
  · cases e
end
end Go.Proofs.VM
namespace Go.Proofs.VM
open Go.RowKit
noncomputable section
variable {T : FT} {w0 : World} {P : Program}
def aFill (place : Nat → Option (Nat × Nat)) (cells : List CV) : List (Nat × AV) → Option (List CV)
  | [] => some cells
  | (i, v) :: rest => match place i with
    | some (off, size) => if v.cells.length = size ∧ off + size ≤ cells.length then aFill place (setsL cells off v.cells) rest else none
    | none => none
theorem foldl_sets : ∀ (vs : List Value) (off k : Nat) (cs : Array Value), (vs.zipIdx k).foldl (fun cs (x : Value × Nat) => cs.setIfInBounds (off + x.2) x.1) cs = (setsL cs.toList (off + k) vs).toArray
  | [], off, k, cs => by simp [setsL]
  | v :: r, off, k, cs => by
    simp only [List.zipIdx_cons, List.foldl_cons, setsL]
    rw [foldl_sets r off (k + 1)]
    simp [Nat.add_assoc]
theorem aFill_ok {ρ : Env} {s : St} {w : World} (H : MRel T ρ s w) {place : Nat → Option (Nat × Nat)} : ∀ {parts : List (Nat × AV)} {vparts : List (Nat × Value)} {cells : List CV} {cs : Array Value} {out : List CV},
    All2 (fun x y => x.1 = y.1 ∧ ARel ρ x.2 y.2) parts vparts → All2 (CRel ρ) cells cs.toList → aFill place cells parts = some out →
    ∃ r : List Value, Instr.fill place cs vparts = some r.toArray ∧ All2 (CRel ρ) out r
  | [], [], cells, cs, out, _, hc, e => by cases e; exact ⟨cs.toList, by simp [Instr.fill], hc⟩
  | (i, v) :: rest, (j, u) :: vrest, cells, cs, out, ⟨⟨h1, h2⟩, h3⟩, hc, e => by
    simp only [aFill] at e
    have h1' : i = j := h1
    subst h1'
    split at e
    · rename_i off size hp
      split at e
      · rename_i hl
        have hcells : All2 (CRel ρ) v.cells u.cells.toList := ARel.cells H h2
        have hlen := hcells.length
        have hlen2 := hc.length
        obtain ⟨r, e1, e2⟩ := aFill_ok H (cs := (setsL cs.toList off u.cells.toList).toArray) h3 (by simpa using hcells.sets off hc) e
        refine ⟨r, ?_, e2⟩
        simp only [Instr.fill, hp]
        have hsz : u.cells.size = size := by rw [← Array.length_toList]; omega
        have hsz2 : cs.size = cells.length := by rw [← Array.length_toList]; exact hlen2.symm
        rw [if_neg (by simp; omega)]
        have hf : u.cells.zipIdx.foldl (fun cs (x : Value × Nat) => cs.setIfInBounds (off + x.2) x.1) cs = (setsL cs.toList off u.cells.toList).toArray := by
          have := foldl_sets u.cells.toList off 0 cs
          rw [Nat.add_zero] at this
          rw [← this, ← Array.foldl_toList]
          congr 1
          simp
        rw [← e1]
        congr 1
      · cases e
    · cases e
def placesT (P : Program) : List Field → Option (List (Nat × Nat))
  | [] => some []
  | f :: l => match sizeT P f.type, placesT P l with
    | some n, some k => some ((f.offset, n) :: k)
    | _, _ => none
theorem placesT_ok : ∀ {l : List Field} {k : List (Nat × Nat)} (w : World), placesT P l = some k → (l.mapM (fun f => do pure (f.offset, ← sizeOf f.type) : Field → Sem (Nat × Nat))).run P w = .ok k w
  | [], k, w, e => by cases e; rfl
  | f :: l, k, w, e => by
    simp only [placesT] at e
    split at e
    · rename_i n k' h1 h2
      cases e
      rw [List.mapM_cons]
      simp only [Sem.run_bind, run_sizeOf' h1, Result.andThen_ok, Sem.run_pure, placesT_ok w h2]
    · cases e
def aBuild (P : Program) (t : TypeId) (parts : List (Nat × AV)) : Option AV :=
  match zeroT P t with
  | some z => match ofCells z.cells.toList, P.underlying t with
    | some l, some (.struct fs) => match placesT P fs.toList with
      | some ps => (aFill (ps[·]?) l parts).map .agg
      | none => none
    | some l, some (.array _ el) => match sizeT P el with
      | some n => (aFill (fun i => some (i * n, n)) l parts).map .agg
      | none => none
    | _, _ => none
  | none => none
theorem aBuild_ok {ρ : Env} {s : St} {w : World} (H : MRel T ρ s w) {t : TypeId} {parts : List (Nat × AV)} {vparts : Array (Nat × Value)} (hp : All2 (fun x y => x.1 = y.1 ∧ ARel ρ x.2 y.2) parts vparts.toList) {y : AV} (e : aBuild P t parts = some y) :
    ∃ u, (∀ w, (Instr.build t vparts).run P w = .ok u w) ∧ ARel ρ y u := by
  unfold aBuild at e
  split at e
  · rename_i z hz
    split at e
    · rename_i l fs hl hu
      split at e
      · rename_i ps hps
        obtain ⟨out, ho, rfl⟩ := Option.map_eq_some_iff.1 e
        obtain ⟨r, e1, e2⟩ := aFill_ok H hp (ofCells_rel ρ hl) ho
        refine ⟨.agg r.toArray, fun w => ?_, r, rfl, e2⟩
        have hm : (fs.mapM (fun f => do pure (f.offset, ← sizeOf f.type) : Field → Sem (Nat × Nat))).run P w = .ok ps.toArray w := by
          rw [Array.mapM_eq_mapM_toList, Sem.run_map, placesT_ok w hps]; rfl
        simp only [Instr.build, Sem.run_bind, run_zeroValue' hz, Result.andThen_ok, run_underlying hu, hm]
        have : Instr.fill (fun x => ps.toArray[x]?) z.cells vparts.toList = some r.toArray := by
          rw [← e1]; congr 1; funext x; simp
        rw [this]
        rfl
      · cases e
    · rename_i l n el hl hu
      split at e
      · rename_i m hm
        obtain ⟨out, ho, rfl⟩ := Option.map_eq_some_iff.1 e
        obtain ⟨r, e1, e2⟩ := aFill_ok H hp (ofCells_rel ρ hl) ho
        refine ⟨.agg r.toArray, fun w => ?_, r, rfl, e2⟩
        simp only [Instr.build, Sem.run_bind, run_zeroValue' hz, Result.andThen_ok, run_underlying hu, run_sizeOf' hm, Sem.run_pure, e1]
      · cases e
    · cases e
  · cases e
def reps {α : Type} (l : List α) : Nat → List α
  | 0 => []
  | n + 1 => l ++ reps l n
theorem reps_rel {ρ : Env} {l : List CV} {vs : List Value} (h : All2 (CRel ρ) l vs) : ∀ n, All2 (CRel ρ) (reps l n) (reps vs n)
  | 0 => trivial
  | n + 1 => (reps_rel h n).append h
theorem reps_length {α : Type} (l : List α) : ∀ n, (reps l n).length = n * l.length
  | 0 => by simp [reps]
  | n + 1 => by rw [reps, List.length_append, reps_length l n, Nat.succ_mul]; omega
theorem reps_get {α : Type} (l : List α) : ∀ n i, i < n * l.length → (reps l n)[i]? = l[i % l.length]?
  | 0, i, h => by simp at h
  | n + 1, i, h => by
    rw [reps]
    by_cases hi : i < l.length
    · rw [List.getElem?_append_left hi, Nat.mod_eq_of_lt hi]
    · rw [List.getElem?_append_right (by omega), reps_get l n (i - l.length) (by rw [Nat.succ_mul] at h; omega), Nat.mod_eq_sub_mod (by omega : i ≥ l.length)]
theorem reps_made (z : Array Value) (n : Nat) (hz : 0 < z.size) : (Array.range (n * z.size)).map (fun x => z[x % z.size]!) = (reps z.toList n).toArray := by
  apply Array.ext
  · simp [reps_length]
  · intro i h1 h2
    simp at h1
    have h3 := reps_get z.toList n i (by simpa using h1)
    simp only [Array.length_toList] at h3
    have hm : i % z.size < z.size := Nat.mod_lt _ hz
    have h4 : (reps z.toList n)[i]? = some (z[i % z.size]'hm) := by rw [h3]; simp [hm]
    have h5 : (reps z.toList n)[i]'(by simpa using h2) = z[i % z.size]'hm := by
      rw [List.getElem?_eq_getElem (by simpa using h2)] at h4
      exact Option.some.inj h4
    simp [h5, hm]
def aBuildSlice (P : Program) (s : St) (t : TypeId) (len : Nat) (parts : List (Nat × AV)) : Option (TV × St) :=
  match P.underlying t with
  | some (.slice el) => match sizeT P el, zeroT P el with
    | some n, some z => match ofCells z.cells.toList with
      | some l => if n = l.length ∧ 0 < n ∧ 0 < len ∧ len * n ≤ 16777216 then match aFill (fun i => some (i * n, n)) (reps l len) parts with
        | some out => if out.all (·.noW) = true then some (.v (.c (.sc s.nb 0 len len)), s.new el out) else none
        | none => none
        else none
      | none => none
    | _, _ => none
  | _ => none
theorem aBuildSlice_ok {ρ : Env} {s : St} {w : World} (H : SRel T w0 ρ s w) {t : TypeId} {len : Nat} {parts : List (Nat × AV)} {vparts : Array (Nat × Value)} (hp : All2 (fun x y => x.1 = y.1 ∧ ARel ρ x.2 y.2) parts vparts.toList) {x : TV × St} (e : aBuildSlice P s t len parts = some x) :
    VOk T w0 P ρ w (Instr.buildSlice t len vparts) (.leaf x) := by
  intro K hK
  unfold aBuildSlice at e
  split at e
  · rename_i el hu
    split at e
    · rename_i n z hn hz
      split at e
      · rename_i l hl
        split at e
        · rename_i hc
          obtain ⟨c1, c2, c3, c4⟩ := hc
          split at e
          · rename_i out ho
            split at e
            · rename_i hnw
              cases e
              have hrel := ofCells_rel ρ hl
              have hlz : z.cells.size = n := by rw [← Array.length_toList, ← hrel.length]; exact c1.symm
              obtain ⟨r, e1, e2⟩ := aFill_ok H.m hp (cs := (reps z.cells.toList len).toArray) (by simpa using reps_rel hrel len) ho
              obtain ⟨h1, h2⟩ := H.alloc (cs := r.toArray) el (by simpa using e2)
              refine ⟨ρ.addBlk s.nb (w.heap.size, 0), _, _, .slice (some ⟨w.heap.size, 0, none⟩) len len, _, hK, h1, h2, ⟨w.heap.size, 0, by simp [Env.addBlk], rfl⟩, ?_⟩
              have hm : (Array.range (len * n)).map (fun x => z.cells[x % z.cells.size]!) = (reps z.cells.toList len).toArray := by
                rw [← hlz]; exact reps_made z.cells len (by omega)
              have hne : len * n ≠ 0 := Nat.mul_ne_zero (by omega) (by omega)
              simp only [Instr.buildSlice, Sem.run_bind, run_underlying hu, Result.andThen_ok, run_sizeOf' hn]
              rw [if_neg (by omega), if_neg hne]
              simp only [Sem.run_bind, run_zeroValue' hz, Result.andThen_ok, Sem.run_pure, hm, e1]
              rfl
            · cases e
          · cases e
        · cases e
      · cases e
    · cases e
  · cases e
def aMakeSlice (P : Program) (s : St) (t : TypeId) : CV → CV → Option (TV × St)
  | .il _ a, .il _ b => match P.underlying t with
    | some (.slice el) => match sizeT P el, zeroT P el, (P.info? el).map (·.bytes) with
      | some n, some z, some bytes => match ofCells z.cells.toList with
        | some l => if n = l.length ∧ 0 < n ∧ a = b ∧ 0 ≤ a ∧ a ≤ 65536 ∧ bytes ≤ 65536 ∧ l.all (·.noW) = true then some (.v (.c (.sc s.nb 0 a.toNat a.toNat)), s.new el (reps l a.toNat)) else none
        | none => none
      | _, _, _ => none
    | _ => none
  | _, _ => none
theorem all_reps {α : Type} {p : α → Bool} {l : List α} (h : l.all p = true) : ∀ n, (reps l n).all p = true
  | 0 => rfl
  | n + 1 => by rw [reps, List.all_append, h, all_reps h n]; rfl
theorem run_typeInfo' {t : TypeId} {b : Nat} (h : (P.info? t).map (·.bytes) = some b) (w : World) : ∃ i, (typeInfo t).run P w = .ok i w ∧ i.bytes = b := by
  obtain ⟨i, e, rfl⟩ := Option.map_eq_some_iff.1 h
  exact ⟨i, by simp [typeInfo, e], rfl⟩
theorem wrap64_small {a : Int} (h0 : 0 ≤ a) (h1 : a ≤ 65536) : IntKind.i64.wrap a = a := by
  simp only [IntKind.wrap, IntKind.bits, IntKind.signed]
  have : a % (2 ^ 64 : Int) = a := Int.emod_eq_of_lt h0 (by omega)
  simp only [this]
  rw [if_neg]
  simp; omega
theorem aMakeSlice_ok {ρ : Env} {s : St} {w : World} (H : SRel T w0 ρ s w) {t : TypeId} {a b : CV} {va vb : Value} (ha : CRel ρ a va) (hb : CRel ρ b vb) {x : TV × St} (e : aMakeSlice P s t a b = some x) : VOk T w0 P ρ w (Instr.makeSlice t va vb) (.leaf x) := by
  intro K hK
  unfold aMakeSlice at e
  split at e
  · rename_i k1 a k2 b
    cases (ha : va = _)
    cases (hb : vb = _)
    split at e
    · rename_i el hu
      split at e
      · rename_i n z bytes hn hz hby
        split at e
        · rename_i l hl
          split at e
          · rename_i hc
            obtain ⟨c1, c2, c3, c4, c5, c6, c7⟩ := hc
            subst c3
            cases e
            have hrel := ofCells_rel ρ hl
            have hlz : z.cells.size = n := by rw [← Array.length_toList, ← hrel.length]; exact c1.symm
            obtain ⟨h1, h2⟩ := H.alloc (cs := (reps z.cells.toList a.toNat).toArray) el (by simpa using reps_rel hrel a.toNat)
            refine ⟨ρ.addBlk s.nb (w.heap.size, 0), _, _, .slice (some ⟨w.heap.size, 0, none⟩) a.toNat a.toNat, _, hK, h1, h2, ⟨w.heap.size, 0, by simp [Env.addBlk], rfl⟩, ?_⟩
            obtain ⟨i, hi, hib⟩ := run_typeInfo' hby w
            have hm : (Array.range (a.toNat * n)).map (fun x => z.cells[x % z.cells.size]!) = (reps z.cells.toList a.toNat).toArray := by
              rw [← hlz]; exact reps_made z.cells a.toNat (by omega)
            have hlarge : (a < 0 || (bytes : Int) * a > 2 ^ 48) = false := by
              have h3 : (bytes : Int) * a ≤ 65536 * 65536 := Int.mul_le_mul (by omega) c5 c4 (by omega)
              simp; omega
            simp only [Instr.makeSlice, Sem.run_bind, run_underlying hu, Result.andThen_ok, asInt, asIntOf, Sem.run_pure, hi, hib, wrap64_small c4 c5, hlarge]
            rw [if_neg (by simp; omega)]
            simp only [Sem.run_bind, run_askRoom, Result.andThen_ok, run_sizeOf' hn]
            by_cases h0 : a.toNat * n = 0
            · have ha0 : a.toNat = 0 := by
                rcases Nat.mul_eq_zero.1 h0 with h | h
                · exact h
                · omega
              rw [if_pos h0]
              have ha : a = 0 := by omega
              subst ha
              simp [reps, show Array.range 0 = (#[] : Array Nat) from rfl]
              rfl
            · rw [if_neg h0]
              simp only [Sem.run_bind, run_zeroValue' hz, Result.andThen_ok, Sem.run_pure, hm]
              rfl
          · cases e
        · cases e
      · cases e
    · cases e
  · cases e
end
end Go.Proofs.VM
namespace Go.Proofs.VM
open Go.RowKit
noncomputable section
variable {T : FT} {w0 : World} {P : Program}
def del {α : Type} : List (Nat × α) → Nat → List (Nat × α)
  | [], _ => []
  | (j, x) :: l, i => if i = j then del l i else (j, x) :: del l i
theorem look_del {α : Type} : ∀ {l : List (Nat × α)} {i k : Nat} {x : α}, look (del l i) k = some x → look l k = some x ∧ k ≠ i
  | (j, y) :: l, i, k, x, h => by
    simp only [del] at h
    split at h
    · rename_i e
      subst e
      obtain ⟨h1, h2⟩ := look_del h
      exact ⟨by simp only [look]; rw [if_neg h2]; exact h1, h2⟩
    · rename_i e
      simp only [look] at h ⊢
      split at h
      · rename_i e2; subst e2; exact ⟨by rw [if_pos rfl]; exact h, fun e3 => e e3.symm⟩
      · rename_i e2
        obtain ⟨h1, h2⟩ := look_del h
        exact ⟨by rw [if_neg e2]; exact h1, h2⟩
  | [], _, _, _, h => nomatch h
theorem SRel.del {ρ : Env} {s : St} {w : World} (H : SRel T w0 ρ s w) (i : Nat) : SRel T w0 ρ (s.setHeap (VM.del s.heap i)) w :=
  ⟨{ H.m with }, { below := H.h.below, env := H.h.env, heap := fun id b e => H.h.heap id b (look_del e).1, inj := fun i j bi bj g hi hj => H.h.inj i j bi bj g (look_del hi).1 (look_del hj).1 }, H.l⟩
def St.newG (s : St) (ty : TypeId) (cs : List CV) (k : Nat) : St := St.rec (motive := fun _ => St) (fun rng nB nS fit nb heap ncl cls lps => ⟨rng, nB, nS, fit, nb + 2, (nb, ⟨true, ty, cs, k⟩) :: heap, ncl, cls, lps⟩) s
theorem St.newG_eq (s : St) (ty : TypeId) (cs : List CV) (k : Nat) : s.newG ty cs k = { s with nb := s.nb + 2, heap := (s.nb, ⟨true, ty, cs, k⟩) :: s.heap } := rfl
theorem SRel.adoptG {ρ : Env} {s : St} {w : World} (H : SRel T w0 ρ s w) (ty : TypeId) {l : List CV} {cs : Array Value} {c k : Nat} (hl : All2 (CRel ρ) l (cs.toList.take l.length)) (hn : NoW cs.toList) (hc : cs.size = c * k) (hm : c ≤ maxLen) {g : Nat} (hg : w.heap[g]? = some (.cells cs ty (0, 0))) (h0 : w0.heap.size ≤ g)
    (hf : ∀ id b, look s.heap id = some b → b.own = true → ρ.blk id ≠ some (g, 0)) :
    ∃ ρ' : Env, ρ'.m = ρ.m ∧ ρ.le ρ' ∧ SRel T w0 ρ' (s.newG ty l k) w ∧ ρ'.blk s.nb = some (g, 0) ∧ ρ'.blk (s.nb + 1) = some (c, 0) := by
  have l1 := Env.le_addBlk (H.m.fresh s.nb (Nat.le_refl _)) (g, 0)
  have l2 : (ρ.addBlk s.nb (g, 0)).le ((ρ.addBlk s.nb (g, 0)).addBlk (s.nb + 1) (c, 0)) := Env.le_addBlk (by
    show (if s.nb + 1 = s.nb then _ else ρ.blk (s.nb + 1)) = none
    rw [if_neg (by omega)]
    exact H.m.fresh _ (by omega)) _
  have hle := l1.trans l2
  have e1 : ((ρ.addBlk s.nb (g, 0)).addBlk (s.nb + 1) (c, 0)).blk s.nb = some (g, 0) := l2.2.1 _ _ (by simp [Env.addBlk])
  have e2 : ((ρ.addBlk s.nb (g, 0)).addBlk (s.nb + 1) (c, 0)).blk (s.nb + 1) = some (c, 0) := by simp [Env.addBlk]
  have hH := H.h.later hle (Below.refl _ _)
  have hM := H.m
  refine ⟨(ρ.addBlk s.nb (g, 0)).addBlk (s.nb + 1) (c, 0), rfl, hle, ⟨{ nI := hM.nI, nB := hM.nB, nS := hM.nS, nQ := hM.nQ, rng := hM.rng, fit := hM.fit, frac := hM.frac, fresh := ?_, freshF := hM.freshF, freshC := hM.freshC, cls := ?_, oneC := hM.oneC }, { below := hH.below, env := hH.env, heap := ?_, inj := ?_ }, H.l.later hle (.refl _)⟩, e1, e2⟩
  · intro id hid
    simp only [St.newG_eq] at hid
    simp only [Env.addBlk]
    rw [if_neg (by omega), if_neg (by omega)]
    exact hM.fresh id (by omega)
  · intro i f caps e
    obtain ⟨cs', h1, h2⟩ := hM.cls i f caps e
    exact ⟨cs', h1, h2.mono fun _ _ => CRel.mono hle⟩
  · intro id b e
    simp only [St.newG_eq, look] at e
    split at e
    · rename_i he
      cases e
      subst he
      exact ⟨fun _ => ⟨g, cs, e1, hg, hl.mono fun _ _ => CRel.mono hle, fun _ => hn, h0, fun _ => ⟨c, 0, e2, hc, hm⟩⟩, fun e => by cases e⟩
    · exact hH.heap id b e
  · intro i j bi bj g' hi hj oi oj ei ej
    simp only [St.newG_eq, look] at hi hj
    have far : ∀ k bk, look s.heap k = some bk → bk.own = true → ((ρ.addBlk s.nb (g, 0)).addBlk (s.nb + 1) (c, 0)).blk k = some (g, 0) → False := by
      intro k bk hk ok ek
      obtain ⟨g', cs', h1, _⟩ := (H.h.heap k bk hk).1 ok
      have h2 := hle.2.1 _ _ h1
      rw [ek] at h2
      cases h2
      exact hf k bk hk ok h1
    split at hi
    · rename_i he
      subst he
      rw [e1] at ei; cases ei
      split at hj
      · rename_i he; exact he.symm
      · exact absurd ej (fun h => far j bj hj oj h)
    · split at hj
      · rename_i he
        subst he
        rw [e1] at ej; cases ej
        exact absurd ei (fun h => far i bi hi oi h)
      · exact hH.inj i j bi bj g' hi hj oi oj ei ej
theorem del_upd' : ∀ (l : List (Nat × Blk)) (i : Nat) (y : Blk), VM.del (upd l i y) i = VM.del l i := fun l i y => by
  induction l with
  | nil => rfl
  | cons p l ih =>
    obtain ⟨j, x⟩ := p
    by_cases e : i = j
    · subst e
      simp only [upd, VM.del, if_true]
    · simp only [upd, VM.del, e, if_false, ih]
theorem setsL_put {α : Type} : ∀ (vs cs : List α) (o : Nat), o + vs.length ≤ cs.length → (setsL cs o vs).take (o + vs.length) = cs.take o ++ vs
  | [], cs, o, _ => by simp [setsL]
  | v :: r, cs, o, h => by
    have h : o + (r.length + 1) ≤ cs.length := h
    have := setsL_put r (cs.set o v) (o + 1) (by simp; omega)
    rw [setsL, show o + (v :: r).length = o + 1 + r.length by simp; omega, this]
    have h1 : (cs.set o v).take (o + 1) = cs.take o ++ [v] := by
      rw [List.take_add_one, List.take_set_of_le (Nat.le_refl _), List.getElem?_set_self (by omega)]
      rfl
    rw [h1, List.append_assoc]
    rfl
theorem cell_own {w : World} {g : Nat} {cs : Array Value} {t : TypeId} (h : w.heap[g]? = some (.cells cs t (0, 0))) (i : Nat) (hi : i < cs.size) : (w.cell? ⟨g, i, none⟩).isSome = true ∧ w.frozen? ⟨g, i, none⟩ = false := by
  simp only [World.cell?, World.frozen?, h]
  simp [hi]
theorem run_append_room' (w : World) (t ty e : TypeId) (i : TypeInfo) (ht : P.underlying t = some (.slice e)) (hi : P.info? e = some i)
    (b off sLen sCap : Nat) (a : Addr) (m c : Nat) (news : List Value) (hl : news.length = m * i.size) (hnews : ∀ j u, news[j]? = some u → w.cell? (a.add j) = some u) (h1 : ∀ u ∈ news, u.oneCell' = true)
    (hroom : sLen + m ≤ sCap) (hc : ∀ j, j < news.length → (w.cell? ⟨b, off + sLen * i.size + j, none⟩).isSome = true) (hf : ∀ j, j < news.length → w.frozen? ⟨b, off + sLen * i.size + j, none⟩ = false) :
    (Builtin.append_ #[t, t] ty #[.slice (some ⟨b, off, none⟩) sLen sCap, .slice (some a) m c]).run P w = .ok (.slice (some ⟨b, off, none⟩) (sLen + m) sCap) (w.setCells b (off + sLen * i.size) news) := by
  have hfc := run_firstCells_some (P := P) w i.size m a m c news hl hnews
  have hst := run_storeCells_cells (P := P) b (off + sLen * i.size) news 0 w (by simpa using hc) (by simpa using hf) h1
  simp only [Nat.add_zero] at hst
  simp [Builtin.append_, run_underlying ht, sizeOf, typeInfo, hi, Builtin.lenOf, hroom, hfc, Addr.add_lit, hst]
theorem run_append_none (w : World) (t ty e : TypeId) (i : TypeInfo) (ht : P.underlying t = some (.slice e)) (hi : P.info? e = some i) (ao : Option Addr) (n c : Nat) (hn : n ≤ c) :
    (Builtin.append_ #[t, t] ty #[.slice ao n c, .slice none 0 0]).run P w = .ok (.slice ao n c) w := by
  have hf := run_firstCells_none (P := P) w i.size 0 0 0
  have hs : ∀ a : Addr, (storeCells a []).run P w = .ok () w := fun a => rfl
  cases ao with
  | none => simp [Builtin.append_, run_underlying ht, sizeOf, typeInfo, hi, Builtin.lenOf, hn, hf]
  | some a => simp [Builtin.append_, run_underlying ht, sizeOf, typeInfo, hi, Builtin.lenOf, hn, hf, hs]
def srcOf (s : St) (k : Nat) : CV → Option (List CV × Nat)
  | .sc b off n _ | .sr b off n _ _ | .sg b off n _ => match look s.heap b with
    | some blk => if off + n * k ≤ blk.cells.length then some ((blk.cells.drop off).take (n * k), n) else none
    | none => none
  | _ => none
theorem srcOf_ok {ρ : Env} {s : St} {w : World} (H : SRel T w0 ρ s w) {k : Nat} {x : CV} {v : Value} (hx : CRel ρ x v) {l : List CV} {n : Nat} (e : srcOf s k x = some (l, n)) :
    ∃ a c vs, v = .slice (some a) n c ∧ vs.length = n * k ∧ l.length = n * k ∧ All2 (CRel ρ) l vs ∧ ∀ w1 : World, (∀ p v, w.cell? p = some v → w1.cell? p = some v) → ∀ (j : Nat) u, vs[j]? = some u → w1.cell? (a.add j) = some u := by
  have key : ∀ (b off n : Nat) (g o : Nat), ρ.blk b = some (g, o) → ∀ blk, look s.heap b = some blk → off + n * k ≤ blk.cells.length →
      ∃ vs, vs.length = n * k ∧ ((blk.cells.drop off).take (n * k)).length = n * k ∧ All2 (CRel ρ) ((blk.cells.drop off).take (n * k)) vs ∧ ∀ w1 : World, (∀ p v, w.cell? p = some v → w1.cell? p = some v) → ∀ (j : Nat) u, vs[j]? = some u → w1.cell? ((⟨g, o + off, none⟩ : Addr).add j) = some u := by
    intro b off n g o hb blk hl hle
    obtain ⟨g', o', vs, h1, h2, h3⟩ := (H.h.heap b blk hl).range
    rw [hb] at h1; cases h1
    have hlen := h3.length
    have hp := rangeAt_part (off := off) (n := n * k) h2
    exact ⟨(vs.drop off).take (n * k), by simp; omega, by simp; omega, (h3.drop off).take _, fun w1 hw j u hu => by rw [Addr.add_mid]; exact hw _ _ (hp j u hu)⟩
  unfold srcOf at e
  split at e
  · rename_i b off n c
    obtain ⟨g, o, hb, rfl⟩ := hx
    split at e
    · rename_i blk hl
      split at e
      · rename_i hle
        cases e
        obtain ⟨vs, h1, h2, h3, h4⟩ := key b off n g o hb blk hl hle
        exact ⟨_, _, vs, rfl, h1, h2, h3, h4⟩
      · cases e
    · cases e
  · rename_i b off n i d
    obtain ⟨g, o, kk, hb, _, _, rfl⟩ := hx
    split at e
    · rename_i blk hl
      split at e
      · rename_i hle
        cases e
        obtain ⟨vs, h1, h2, h3, h4⟩ := key b off n g o hb blk hl hle
        exact ⟨_, _, vs, rfl, h1, h2, h3, h4⟩
      · cases e
    · cases e
  · rename_i b off n d
    obtain ⟨g, o, kk, z, hb, _, _, rfl⟩ := hx
    split at e
    · rename_i blk hl
      split at e
      · rename_i hle
        cases e
        obtain ⟨vs, h1, h2, h3, h4⟩ := key b off n g o hb blk hl hle
        exact ⟨_, _, vs, rfl, h1, h2, h3, h4⟩
      · cases e
    · cases e
  · cases e
def appTo (s : St) (el : TypeId) (k bytes : Nat) (news : List CV) (m : Nat) : CV → Option (TV × St)
  | .nsl => some (.v (.c (.sg s.nb 0 m 0)), s.newG el news k)
  | .sg b 0 n 0 => match look s.heap b with
    | some blk => match Nat.ble ((n + m) * k) blk.cells.length with
      | true => if blk.own = true ∧ blk.gr = k ∧ 0 < k ∧ blk.cells.all (·.noW) = true then
          some (.v (.c (.sg b 0 (n + m) 0)), s.setHeap (upd s.heap b { blk with cells := setsL blk.cells (n * k) news })) else none
      | false => if blk.own = true ∧ blk.gr = k ∧ blk.ty = el ∧ blk.cells.length = n * k ∧ (n + m) * bytes ≤ 140737488355328 ∧ n + m ≤ 4294967296 ∧ blk.cells.all (·.noW) = true then
        some (.v (.c (.sg s.nb 0 (n + m) 0)), (s.setHeap (VM.del s.heap b)).newG el (blk.cells ++ news) k) else none
    | none => none
  | .sc b off n c => match look s.heap b with
    | some blk => match Nat.ble (n + m) c with
      | true => if blk.own = true ∧ off + (n + m) * k ≤ blk.cells.length ∧ blk.cells.all (·.noW) = true then
          some (.v (.c (.sc b off (n + m) c)), s.setHeap (upd s.heap b { blk with cells := setsL blk.cells (off + n * k) news })) else none
      | false => if off + n * k ≤ blk.cells.length ∧ ((blk.cells.drop off).take (n * k)).all (·.noW) = true ∧ (n + m) * bytes ≤ 140737488355328 ∧ n + m ≤ 4294967296 then
          some (.v (.c (.sg s.nb 0 (n + m) 0)), s.newG el ((blk.cells.drop off).take (n * k) ++ news) k) else none
    | none => none
  | _ => none
def appZ (P : Program) (s : St) (t t' : TypeId) : CV → CV → Option (TV × St)
  | .nsl, .il _ (.ofNat n) => match P.underlying t, P.underlying t' with
    | some (.slice el), some (.int _) => match P.info? el with
      | some i => match i.zero with
        | some z => match ofCells z.cells.toList with
          | some l => if l.length = i.size ∧ 0 < i.size ∧ l.all (·.noW) = true ∧ 0 < n ∧ n ≤ 65536 ∧ i.bytes ≤ 65536 then some (.v (.c (.sg s.nb 0 n 0)), s.newG el (reps l n) i.size) else none
          | none => none
        | none => none
      | none => none
    | _, _ => none
  | _, _ => none
def aAppend (P : Program) (s : St) (ts : Array TypeId) (x y : CV) : Option (TV × St) :=
  match ts.toList with
  | [t, t'] => if t ≠ t' then appZ P s t t' x y else match P.underlying t with
    | some (.slice el) => match P.info? el with
      | some i => match i.zero with
        | some z => match ofCells z.cells.toList with
          | some l => if l.length = i.size ∧ 0 < i.size ∧ l.all (·.noW) = true then match y with
            | .nsl => match x with
              | .sc b off n c => if n ≤ c then some (.v (.c (.sc b off n c)), s) else none
              | .nsl => some (.v (.c .nsl), s)
              | .sg b off n d => some (.v (.c (.sg b off n d)), s)
              | _ => none
            | _ => match srcOf s i.size y with
              | some (news, m) => if 0 < m ∧ m ≤ 65536 ∧ i.bytes ≤ 65536 ∧ news.all (·.noW) = true then appTo s el i.size i.bytes news m x else none
              | none => none
            else none
          | none => none
        | none => none
      | none => none
    | _ => none
  | _ => none
theorem grown_zeros {z : Array Value} {l : List CV} {ρ : Env} {s : St} {w : World} (H : MRel T ρ s w) (h : All2 (CRel ρ) l z.toList) (hn : l.all (·.noW) = true) (n : Nat) : NoW (Builtin.zeroCells z n).toList := by
  have h1 := All2.nws H h hn
  intro v hv
  rw [Builtin.zeroCells] at hv
  simp only [Array.toList_map, List.mem_map] at hv
  obtain ⟨i, hi, rfl⟩ := hv
  have hi : i < n * z.size := by simpa using hi
  have hz : 0 < z.size := by
    rcases Nat.eq_zero_or_pos z.size with e | e
    · rw [e] at hi; omega
    · exact e
  have hm := Nat.mod_lt i hz
  refine h1 _ ?_
  rw [getElem!_pos z _ hm]
  exact Array.getElem_mem_toList hm
theorem grow_new {ρ : Env} {s : St} {w : World} (H : SRel T w0 ρ s w) (el : TypeId) {l : List CV} {vs : List Value} (hl : All2 (CRel ρ) l vs) (hn : NoW vs) {z : Array Value} {lz : List CV} (hz : All2 (CRel ρ) lz z.toList) (hzn : lz.all (·.noW) = true) {k N C : Nat} (hk : z.size = k) (hlen : vs.length = N * k) (hNC : N ≤ C) (hC : C ≤ maxLen) :
    ∃ ρ', ρ'.m = ρ.m ∧ ρ.le ρ' ∧ SRel T w0 ρ' (s.newG el l k) (w.drew.alloc (.cells (vs.toArray ++ Builtin.zeroCells z (C - N)) el)) ∧ CRel ρ' (.sg s.nb 0 N 0) (.slice (some ⟨w.heap.size, 0, none⟩) N C) := by
  have hb : Below w.heap.size w (w.drew.alloc (.cells (vs.toArray ++ Builtin.zeroCells z (C - N)) el)) := (below_drew' w).alloc (Nat.le_refl _) _
  have H1 := H.world hb
  have hll := hl.length
  obtain ⟨ρ', h0, h1, h2, h3, h4⟩ := H1.adoptG el (l := l) (cs := vs.toArray ++ Builtin.zeroCells z (C - N)) (c := C) (k := k) (g := w.heap.size) (by
      rw [Array.toList_append, List.toList_toArray, hll, List.take_left]; exact hl) (by
      rw [Array.toList_append, List.toList_toArray]
      intro v hv
      rcases List.mem_append.1 hv with h | h
      · exact hn v h
      · exact grown_zeros H.m hz hzn _ v h) (by
      rw [Array.size_append, size_zeroCells, hk, List.size_toArray, hlen, ← Nat.add_mul]; congr 1; omega) hC (by
      show (w.heap.push _)[w.heap.size]? = _
      simp) H.h.below.size (by
      intro id b hid ho e
      obtain ⟨g', cs', k1, k2, _⟩ := (H.h.heap id b hid).1 ho
      rw [e] at k1; cases k1
      have := lt_of_heap k2
      omega)
  exact ⟨ρ', h0, h1, h2, w.heap.size, 0, C, 0, h3, h4, by omega, rfl⟩
theorem appZ_ok {ρ : Env} {s : St} {w : World} (H : SRel T w0 ρ s w) {t t' ty : TypeId} {x y : CV} {vx vy : Value} (hx : CRel ρ x vx) (hy : CRel ρ y vy) {r : TV × St} (e : appZ P s t t' x y = some r) : VOk T w0 P ρ w (Builtin.append_ #[t, t'] ty #[vx, vy]) (.leaf r) := by
  intro K hK
  unfold appZ at e
  split at e
  · rename_i kk n
    cases (hx : vx = _)
    cases (hy : vy = _)
    split at e
    · rename_i el kn hu hu'
      split at e
      · rename_i i hi
        split at e
        · rename_i z hz
          split at e
          · rename_i lz hlz
            split at e
            · rename_i hc
              obtain ⟨c1, c2, c3, c4, c5, c6⟩ := hc
              cases e
              have hrel := ofCells_rel ρ hlz
              have hzs : z.cells.size = i.size := by rw [← Array.length_toList, ← hrel.length]; exact c1
              have hml : n * i.bytes ≤ 65536 * 65536 := Nat.mul_le_mul c5 c6
              have hr := Lib.run_append_nil_zeros (P := P) w t t' ty el i z kk kn hu hu' hi hz n c4 c2 (by omega) (by omega)
              have hz0 : Builtin.zeroCells z.cells n = (reps z.cells.toList n).toArray := reps_made z.cells n (by omega)
              obtain ⟨ρ', k0, k1, k2, k3⟩ := grow_new H el (reps_rel hrel n) (All2.nws H.m (reps_rel hrel n) (all_reps c3 n)) hrel c3 hzs (N := n) (by rw [reps_length, Array.length_toList, hzs]) (grownCap_ge w n 0 el) (grownCap_le_maxLen w n 0 el (by simp only [maxLen]; omega))
              refine ⟨ρ', .v (.c (.sg s.nb 0 n 0)), _, _, _, k0 ▸ hK, k1, k2, k3, ?_⟩
              rw [← hz0]
              exact hr
            · cases e
          · cases e
        · cases e
      · cases e
    · cases e
  · cases e
theorem aAppend_ok {ρ : Env} {s : St} {w : World} (H : SRel T w0 ρ s w) {ts : Array TypeId} {ty : TypeId} {x y : CV} {vx vy : Value} (hx : CRel ρ x vx) (hy : CRel ρ y vy) {r : TV × St} (e : aAppend P s ts x y = some r) : VOk T w0 P ρ w (Builtin.append_ ts ty #[vx, vy]) (.leaf r) := by
  intro K hK
  unfold aAppend at e
  split at e
  · rename_i t t' hts
    split at e
    · obtain rfl : ts = #[t, t'] := by rw [← Array.toArray_toList (xs := ts), hts]
      exact appZ_ok H hx hy e K hK
    · rename_i htt
      obtain rfl : t = t' := Classical.not_not.1 htt
      obtain rfl : ts = #[t, t] := by rw [← Array.toArray_toList (xs := ts), hts]
      split at e
      · rename_i el hu
        split at e
        · rename_i i hi
          split at e
          · rename_i z hz
            split at e
            · rename_i lz hlz
              split at e
              · rename_i hc
                obtain ⟨c1, c2, c3⟩ := hc
                have hrel := ofCells_rel ρ hlz
                have hzs : z.cells.size = i.size := by rw [← Array.length_toList, ← hrel.length]; exact c1
                split at e
                · cases (hy : vy = _)
                  split at e
                  · rename_i b off n c
                    split at e
                    · rename_i hnc
                      cases e
                      obtain ⟨g, o, hb, rfl⟩ := hx
                      exact ⟨ρ, _, _, _, w, hK, .refl _, H, ⟨g, o, hb, rfl⟩, run_append_none w t ty el i hu hi _ n c hnc⟩
                    · cases e
                  · cases e
                    cases (hx : vx = _)
                    exact ⟨ρ, _, _, _, w, hK, .refl _, H, rfl, run_append_none w t ty el i hu hi _ 0 0 (Nat.le_refl _)⟩
                  · rename_i b off n d
                    cases e
                    obtain ⟨g, o, c, zz, hb, hb2, hle, rfl⟩ := hx
                    exact ⟨ρ, _, _, _, w, hK, .refl _, H, ⟨g, o, c, zz, hb, hb2, hle, rfl⟩, run_append_none w t ty el i hu hi _ n (c - d) (by omega)⟩
                  · cases e
                · split at e
                  · rename_i news m hsrc
                    split at e
                    · rename_i hc2
                      obtain ⟨d1, d2, d3, d4⟩ := hc2
                      obtain ⟨a, cy, vs, rfl, v1, v2, v3, v4⟩ := srcOf_ok H hy hsrc
                      have hone := All2.ones H.m v3
                      have hnews := v4 w (fun _ _ h => h)
                      have hml : m * i.bytes ≤ 65536 * 65536 := Nat.mul_le_mul d2 d3
                      unfold appTo at e
                      split at e
                      · cases e
                        cases (hx : vx = _)
                        have hr := run_append_nil (P := P) w t ty el i z hu hi hz a m cy vs v1 hnews d1 (by omega) (by omega)
                        obtain ⟨ρ', k0, k1, k2, k3⟩ := grow_new H el v3 (All2.nws H.m v3 d4) hrel c3 hzs v1 (grownCap_ge w m 0 el) (grownCap_le_maxLen w m 0 el (by simp only [maxLen]; omega))
                        exact ⟨ρ', .v (.c (.sg s.nb 0 m 0)), _, _, _, k0 ▸ hK, k1, k2, k3, hr⟩
                      · rename_i b n
                        obtain ⟨g, o, c, zz, hb, hb2, hle, rfl⟩ := hx
                        split at e
                        · rename_i blk hl
                          split at e
                          · rename_i hble
                            have hfit0 : (n + m) * i.size ≤ blk.cells.length := Nat.le_of_ble_eq_true hble
                            split at e
                            · rename_i hcc
                              obtain ⟨ho, hgr, hk0, hbw⟩ := hcc
                              cases e
                              obtain ⟨g', cs, h1, h2, h3, h4, h5, h6⟩ := (H.h.heap b blk hl).1 ho
                              rw [hb] at h1; cases h1
                              obtain ⟨c', z', q1, q2, q3⟩ := h6 (by omega)
                              rw [hb2] at q1; cases q1
                              rw [hgr] at q2
                              have htl := h3.length
                              rw [List.length_take, Array.length_toList] at htl
                              have hroom : n + m ≤ c := by
                                have : (n + m) * i.size ≤ c * i.size := by omega
                                exact Nat.le_of_mul_le_mul_right this hk0
                              have hfit : n * i.size + vs.length ≤ cs.size := by rw [v1]; rw [Nat.add_mul] at hfit0; omega
                              have hr := run_append_room' (P := P) w t ty el i hu hi g 0 n c a m cy vs v1 hnews hone hroom
                                (fun j hj => (cell_own h2 _ (by omega)).1) (fun j hj => (cell_own h2 _ (by omega)).2)
                              rw [Nat.zero_add] at hr
                              have H1 := H.store hl ho hb h2 h3 h4 h5 h6 v3 (n * i.size) (.inl ⟨hbw, d4⟩)
                              exact ⟨ρ, .v (.c (.sg b 0 (n + m) 0)), _, .slice (some ⟨g, 0, none⟩) (n + m) c, _, hK, .refl _, H1, ⟨g, 0, c, zz, hb, hb2, hroom, rfl⟩, hr⟩
                            · cases e
                          split at e
                          · rename_i hcc
                            obtain ⟨ho, hgr, hty, hcl, hby, hlg, hbw⟩ := hcc
                            cases e
                            subst hty
                            obtain ⟨g', cs, h1, h2, h3, h4, h5, h6⟩ := (H.h.heap b blk hl).1 ho
                            rw [hb] at h1; cases h1
                            obtain ⟨c', z', q1, q2, q3⟩ := h6 (by omega)
                            rw [hb2] at q1; cases q1
                            rw [hgr] at q2
                            have hvn := All2.nws H.m v3 d4
                            have htl := h3.length
                            rw [hcl] at h3 htl
                            by_cases hroom : n + m ≤ c
                            · have hfit : n * i.size + vs.length ≤ cs.size := by
                                rw [v1, ← Nat.add_mul, q2]; exact Nat.mul_le_mul_right _ hroom
                              have hr := run_append_room' (P := P) w t ty blk.ty i hu hi g 0 n c a m cy vs v1 hnews hone hroom
                                (fun j hj => (cell_own h2 _ (by omega)).1) (fun j hj => (cell_own h2 _ (by omega)).2)
                              rw [Nat.zero_add] at hr
                              have H1 := H.store hl ho hb h2 (by rw [hcl]; exact h3) h4 h5 h6 v3 (n * i.size) (.inl ⟨hbw, d4⟩)
                              have H2 := H1.del b
                              have e2 : VM.del (upd s.heap b { blk with cells := setsL blk.cells (n * i.size) news }) b = VM.del s.heap b := del_upd' _ _ _
                              have H2 : SRel T w0 ρ (s.setHeap (VM.del s.heap b)) (w.setCells g (n * i.size) vs) := by
                                have := H2
                                simp only [St.setHeap_eq] at this ⊢
                                rw [e2] at this
                                exact this
                              obtain ⟨ρ', k0, k1, k2, k3, k4⟩ := H2.adoptG blk.ty (l := blk.cells ++ news) (cs := (setsL cs.toList (n * i.size) vs).toArray) (c := c) (k := i.size) (g := g) (by
                                  rw [List.length_append, hcl, v2, ← v1, List.toList_toArray, setsL_put _ _ _ (by rw [Array.length_toList]; exact hfit)]
                                  exact v3.append h3) (by rw [List.toList_toArray]; exact NoW.sets _ (h4 hbw) hvn) (by simpa [setsL_len] using q2) q3 (heap_setCells g vs _ w cs blk.ty h2) h5 (by
                                  intro id b' hid ho' e3
                                  obtain ⟨e4, e5⟩ := look_del (show look (VM.del s.heap b) id = some b' from hid)
                                  exact e5 (H.h.inj id b b' blk g e4 hl ho' ho e3 hb))
                              exact ⟨ρ', .v (.c (.sg s.nb 0 (n + m) 0)), _, .slice (some ⟨g, 0, none⟩) (n + m) c, _, k0 ▸ hK, k1, k2, ⟨g, 0, c, 0, k3, k4, by omega, rfl⟩, hr⟩
                            · have holds : ∀ j u, (cs.toList.take (n * i.size))[j]? = some u → w.cell? ((⟨g, 0 + 0, none⟩ : Addr).add j) = some u := by
                                intro j u hj
                                rw [List.getElem?_take] at hj
                                split at hj
                                · rw [Addr.add_mid, World.cell?, h2]; simpa using hj
                                · cases hj
                              have holen : (cs.toList.take (n * i.size)).length = n * i.size := by omega
                              have hr := run_append_grow (P := P) w t ty blk.ty i z hu hi hz ⟨g, 0 + 0, none⟩ n (c - 0) (cs.toList.take (n * i.size)) holen holds a m cy vs v1 hnews (by omega) (by omega) (growslice_fits (by omega) hby)
                              obtain ⟨ρ', k0, k1, k2, k3⟩ := grow_new (H.del b) blk.ty (v3.append h3) (fun v hv => by
                                rcases List.mem_append.1 hv with h | h
                                · exact h4 hbw v (List.mem_of_mem_take h)
                                · exact hvn v h) hrel c3 hzs (N := n + m) (by rw [List.length_append, holen, v1, Nat.add_mul]) (grownCap_ge w (n + m) (c - 0) blk.ty) (grownCap_le_maxLen w (n + m) (c - 0) blk.ty (by simp only [maxLen]; omega))
                              refine ⟨ρ', .v (.c (.sg s.nb 0 (n + m) 0)), _, _, _, k0 ▸ hK, k1, k2, k3, ?_⟩
                              rw [hr]
                              simp
                          · cases e
                        · cases e
                      · rename_i b off n c
                        obtain ⟨g, o, hb, rfl⟩ := hx
                        split at e
                        · rename_i blk hl
                          split at e
                          · rename_i hble
                            have hroom : n + m ≤ c := Nat.le_of_ble_eq_true hble
                            split at e
                            · rename_i hcc
                              obtain ⟨ho, hle, hbw⟩ := hcc
                              cases e
                              obtain ⟨g', cs, h1, h2, h3, h4, h5, h6⟩ := (H.h.heap b blk hl).1 ho
                              rw [hb] at h1; cases h1
                              have htl := h3.length
                              rw [List.length_take, Array.length_toList] at htl
                              have hfit : off + n * i.size + vs.length ≤ cs.size := by rw [v1]; rw [Nat.add_mul] at hle; omega
                              have hr := run_append_room' (P := P) w t ty el i hu hi g (0 + off) n c a m cy vs v1 hnews hone hroom
                                (fun j hj => (cell_own h2 _ (by omega)).1) (fun j hj => (cell_own h2 _ (by omega)).2)
                              have H1 := H.store hl ho hb h2 h3 h4 h5 h6 v3 (off + n * i.size) (.inl ⟨hbw, d4⟩)
                              refine ⟨ρ, _, _, _, _, hK, .refl _, H1, ⟨g, 0, hb, rfl⟩, ?_⟩
                              rw [hr, Nat.zero_add]
                            · cases e
                          · rename_i hble
                            have hroom : ¬ n + m ≤ c := fun h => by rw [Nat.ble_eq_true_of_le h] at hble; cases hble
                            split at e
                            · rename_i hcc
                              obtain ⟨hle, hnw, hby, hlg⟩ := hcc
                              cases e
                              obtain ⟨g', o', vs0, h1, h2, h3⟩ := (H.h.heap b blk hl).range
                              rw [hb] at h1; cases h1
                              have hlen := h3.length
                              have hp := rangeAt_part (off := off) (n := n * i.size) h2
                              have h3' := (h3.drop off).take (n * i.size)
                              have holen : ((vs0.drop off).take (n * i.size)).length = n * i.size := by simp; omega
                              have hr := run_append_grow (P := P) w t ty el i z hu hi hz ⟨g, o + off, none⟩ n c ((vs0.drop off).take (n * i.size)) holen (fun j u hj => by rw [Addr.add_mid]; exact hp j u hj) a m cy vs v1 hnews (by omega) (by omega) (growslice_fits (by omega) hby)
                              obtain ⟨ρ', k0, k1, k2, k3⟩ := grow_new H el (v3.append h3') (fun v hv => by
                                rcases List.mem_append.1 hv with h | h
                                · exact All2.nws H.m h3' hnw v h
                                · exact All2.nws H.m v3 d4 v h) hrel c3 hzs (N := n + m) (by rw [List.length_append, holen, v1, Nat.add_mul]) (grownCap_ge w (n + m) c el) (grownCap_le_maxLen w (n + m) c el (by simp only [maxLen]; omega))
                              refine ⟨ρ', .v (.c (.sg s.nb 0 (n + m) 0)), _, _, _, k0 ▸ hK, k1, k2, k3, ?_⟩
                              rw [hr]
                              simp
                            · cases e
                        · cases e
                      · cases e
                    · cases e
                  · cases e
              · cases e
            · cases e
          · cases e
        · cases e
      · cases e
  · cases e
theorem run_copy_cells (w : World) (t t' ty e : TypeId) (i : TypeInfo) (ht : P.underlying t = some (.slice e)) (hi : P.info? e = some i)
    (b off dLen dCap : Nat) (a : Addr) (m c : Nat) (news : List Value) (hl : news.length = min m dLen * i.size) (hnews : ∀ j u, news[j]? = some u → w.cell? (a.add j) = some u) (h1 : ∀ u ∈ news, u.oneCell' = true)
    (hc : ∀ j, j < news.length → (w.cell? ⟨b, off + j, none⟩).isSome = true) (hf : ∀ j, j < news.length → w.frozen? ⟨b, off + j, none⟩ = false) :
    (Builtin.copy_ #[t, t'] ty #[.slice (some ⟨b, off, none⟩) dLen dCap, .slice (some a) m c]).run P w = .ok (goInt (min m dLen : Nat)) (w.setCells b off news) := by
  have hfc := run_firstCells_some (P := P) w i.size (min m dLen) a m c news hl hnews
  have hst := run_storeCells_cells (P := P) b off news 0 w (by simpa using hc) (by simpa using hf) h1
  simp only [Nat.add_zero] at hst
  have hm : Nat.min m dLen = min m dLen := rfl
  simp [Builtin.copy_, run_underlying ht, sizeOf, typeInfo, hi, Builtin.lenOf, hfc, hst, hm]
def aCopy (P : Program) (s : St) (ts : Array TypeId) (x y : CV) : Option (TV × St) :=
  match ts.toList with
  | [t, _] => match P.underlying t with
    | some (.slice el) => match P.info? el with
      | some i => match srcOf s i.size y with
        | some (news, m) => match x with
          | .sc b off n _ => match look s.heap b with
            | some blk => if blk.own = true ∧ off + min m n * i.size ≤ blk.cells.length ∧ blk.cells.all (·.noW) = true ∧ (news.take (min m n * i.size)).all (·.noW) = true then
                some (.v (.c (.il .i64 (min m n : Nat))), s.setHeap (upd s.heap b { blk with cells := setsL blk.cells off (news.take (min m n * i.size)) })) else none
            | none => none
          | _ => none
        | none => none
      | none => none
    | _ => none
  | _ => none
theorem aCopy_ok {ρ : Env} {s : St} {w : World} (H : SRel T w0 ρ s w) {ts : Array TypeId} {ty : TypeId} {x y : CV} {vx vy : Value} (hx : CRel ρ x vx) (hy : CRel ρ y vy) {r : TV × St} (e : aCopy P s ts x y = some r) : VOk T w0 P ρ w (Builtin.copy_ ts ty #[vx, vy]) (.leaf r) := by
  intro K hK
  unfold aCopy at e
  split at e
  · rename_i t t' hts
    obtain rfl : ts = #[t, t'] := by rw [← Array.toArray_toList (xs := ts), hts]
    split at e
    · rename_i el hu
      split at e
      · rename_i i hi
        split at e
        · rename_i news m hsrc
          split at e
          · rename_i b off n c
            split at e
            · rename_i blk hl
              split at e
              · rename_i hc
                obtain ⟨ho, hfit, hbw, hnw⟩ := hc
                cases e
                obtain ⟨g, o, hb, rfl⟩ := hx
                obtain ⟨a, cy, vs, rfl, v1, v2, v3, v4⟩ := srcOf_ok H hy hsrc
                obtain ⟨g', cs, h1, h2, h3, h4, h5, h6⟩ := (H.h.heap b blk hl).1 ho
                rw [hb] at h1; cases h1
                have htl := h3.length
                rw [List.length_take, Array.length_toList] at htl
                have hmn : min m n * i.size ≤ m * i.size := Nat.mul_le_mul_right _ (Nat.min_le_left _ _)
                have w1 : (vs.take (min m n * i.size)).length = min m n * i.size := by rw [List.length_take, v1]; omega
                have w3 := v3.take (min m n * i.size)
                have hone := All2.ones H.m w3
                have hr := run_copy_cells (P := P) w t t' ty el i hu hi g (0 + off) n c a m cy (vs.take (min m n * i.size)) w1 (fun j u hj => by
                  rw [List.getElem?_take] at hj
                  split at hj
                  · exact v4 w (fun _ _ h => h) j u hj
                  · cases hj) hone
                  (fun j hj => (cell_own h2 _ (by omega)).1) (fun j hj => (cell_own h2 _ (by omega)).2)
                rw [Nat.zero_add] at hr
                have H1 := H.store hl ho hb h2 h3 h4 h5 h6 w3 off (.inl ⟨hbw, hnw⟩)
                rw [Nat.zero_add]
                exact ⟨ρ, .v (.c (.il .i64 (min m n : Nat))), _, _, _, hK, .refl _, H1, rfl, hr⟩
              · cases e
            · cases e
          · cases e
        · cases e
      · cases e
    · cases e
  · cases e
end
end Go.Proofs.VM
namespace Go.Proofs.VM
open Go.RowKit
noncomputable section
variable {T : FT} {w0 : World} {P : Program}
def litI : Option CV → Nat → Option Nat
  | none, d => some d
  | some (.il _ i), _ => if 0 ≤ i then some i.toNat else none
  | _, _ => none
def oRel (ρ : Env) : Option CV → Option Value → Prop
  | none, none => True
  | some x, some v => CRel ρ x v
  | _, _ => False
def aSlice (P : Program) (t : TypeId) (lo hi : Option CV) : CV → Option CV
  | .pt b off => match P.underlying t with
    | some (.array n el) => match litI lo 0, litI hi n, sizeT P el with
      | some l, some h, some z => if l ≤ h ∧ h ≤ n then some (.sc b (if n = l then off else off + l * z) (h - l) (n - l)) else none
      | _, _, _ => none
    | _ => none
  | .sc b off len cap => match P.underlying t with
    | some (.slice el) => match litI lo 0, litI hi len, sizeT P el with
      | some l, some h, some z => if l ≤ h ∧ h ≤ cap then some (.sc b (if cap = l then off else off + l * z) (h - l) (cap - l)) else none
      | _, _, _ => none
    | _ => none
  | .sr b off len i d => match P.underlying t with
    | some (.slice el) => match litI lo 0, litI hi len, sizeT P el with
      | some l, some h, some z => if l ≤ h ∧ h ≤ len ∧ (l = 0 ∨ l < len) then some (.sr b (off + l * z) (h - l) i (d + l)) else none
      | _, _, _ => none
    | _ => none
  | .sg b off len d => match P.underlying t with
    | some (.slice el) => match litI lo 0, litI hi len, sizeT P el with
      | some l, some h, some z => if l ≤ h ∧ h ≤ len ∧ (l = 0 ∨ l < len) then some (.sg b (off + l * z) (h - l) (d + l)) else none
      | _, _, _ => none
    | _ => none
  | .nsl => match P.underlying t with
    | some (.slice el) => match litI lo 0, litI hi 0, sizeT P el with
      | some 0, some 0, some _ => some .nsl
      | _, _, _ => none
    | _ => none
  | _ => none
theorem run_sliceBound {k : IntKind} {i : Int} {y : Nat} {code : BoundsCode} (w : World) (h0 : 0 ≤ i) (h1 : i.toNat ≤ y) : (Instr.sliceBound (.int k i) y code).run P w = .ok i.toNat w := by
  have : i ≤ (y : Int) := by omega
  simp [Instr.sliceBound, asIntOf, h0, this]
theorem run_litBound {ρ : Env} {x : CV} {v : Value} (h : CRel ρ x v) {d n y : Nat} {code : BoundsCode} (e : litI (some x) d = some n) (hn : n ≤ y) (w : World) : (Instr.sliceBound v y code).run P w = .ok n w := by
  cases x <;> simp only [litI, reduceCtorEq] at e
  rename_i k i
  split at e
  · rename_i h0
    cases e
    cases (h : v = _)
    exact run_sliceBound w h0 hn
  · cases e
theorem run_sliceBounds {ρ : Env} {lo hi : Option CV} {vlo vhi : Option Value} (hlo : oRel ρ lo vlo) (hhi : oRel ρ hi vhi) {len cap l h : Nat} {b : Bool} (el : litI lo 0 = some l) (eh : litI hi len = some h) (c1 : l ≤ h) (c2 : h ≤ cap) (w : World) :
    (Instr.sliceBounds b len cap vlo vhi none).run P w = .ok (l, h, cap) w := by
  cases vhi with
  | none =>
    cases hi with
    | some x => exact hhi.elim
    | none =>
      cases eh
      cases vlo with
      | none =>
        cases lo with
        | some x => exact hlo.elim
        | none => cases el; simp [Instr.sliceBounds]
      | some v =>
        cases lo with
        | none => exact hlo.elim
        | some x => simp [Instr.sliceBounds, run_litBound hlo el c1]
  | some u =>
    cases hi with
    | none => exact hhi.elim
    | some z =>
      cases vlo with
      | none =>
        cases lo with
        | some x => exact hlo.elim
        | none => cases el; simp [Instr.sliceBounds, run_litBound hhi eh c2]
      | some v =>
        cases lo with
        | none => exact hlo.elim
        | some x => simp [Instr.sliceBounds, run_litBound hlo el c1, run_litBound hhi eh c2]
theorem aSlice_ok {ρ : Env} {t : TypeId} {lo hi : Option CV} {vlo vhi : Option Value} (hlo : oRel ρ lo vlo) (hhi : oRel ρ hi vhi) {x y : CV} {v : Value} (hx : CRel ρ x v) (e : aSlice P t lo hi x = some y) : ∃ u, (∀ w, (Instr.sliceAt t v vlo vhi none).run P w = .ok u w) ∧ CRel ρ y u := by
  unfold aSlice at e
  split at e
  · rename_i b off
    obtain ⟨g, o, hb, rfl⟩ := hx
    split at e
    · rename_i n el hu
      split at e
      · rename_i l h z h1 h2 h3
        split at e
        · rename_i hc
          cases e
          refine ⟨.slice (some (if n = l then ⟨g, o + off, none⟩ else ⟨g, o + off + l * z, none⟩)) (h - l) (n - l), fun w => ?_, g, o, hb, ?_⟩
          · simp only [Instr.sliceAt, Sem.run_bind, run_underlying hu, Result.andThen_ok, Instr.sureAddr, Sem.run_pure, run_sliceBounds hlo hhi h1 h2 hc.1 hc.2, run_sizeOf' h3, Addr.add_mid]
          · split <;> simp [Nat.add_assoc]
        · cases e
      · cases e
    · cases e
  · rename_i b off len cap
    obtain ⟨g, o, hb, rfl⟩ := hx
    split at e
    · rename_i el hu
      split at e
      · rename_i l h z h1 h2 h3
        split at e
        · rename_i hc
          cases e
          refine ⟨.slice (some (if cap = l then ⟨g, o + off, none⟩ else ⟨g, o + off + l * z, none⟩)) (h - l) (cap - l), fun w => ?_, g, o, hb, ?_⟩
          · simp only [Instr.sliceAt, Instr.slice, Sem.run_bind, run_underlying hu, Result.andThen_ok, Sem.run_pure, run_sliceBounds hlo hhi h1 h2 hc.1 hc.2, run_sizeOf' h3, Option.map_some, Addr.add_mid]
            split <;> rfl
          · split <;> simp [Nat.add_assoc]
        · cases e
      · cases e
    · cases e
  · rename_i b off len ic d
    obtain ⟨g, o, kc, hb, hk, hle, rfl⟩ := hx
    split at e
    · rename_i el hu
      split at e
      · rename_i l h z h1 h2 h3
        split at e
        · rename_i hc
          cases e
          have hcap : h ≤ kc.toNat - d := by omega
          refine ⟨.slice (some ⟨g, o + (off + l * z), none⟩) (h - l) (kc.toNat - (d + l)), fun w => ?_, g, o, kc, hb, hk, by omega, rfl⟩
          · simp only [Instr.sliceAt, Instr.slice, Sem.run_bind, run_underlying hu, Result.andThen_ok, Sem.run_pure, run_sliceBounds hlo hhi h1 h2 hc.1 hcap, run_sizeOf' h3, Option.map_some, Addr.add_mid]
            have e1 : kc.toNat - d - l = kc.toNat - (d + l) := by omega
            rw [e1]
            split
            · have : l = 0 := by omega
              subst this; simp
            · simp [Nat.add_assoc]
        · cases e
      · cases e
    · cases e
  · rename_i b off len d
    obtain ⟨g, o, kc, zc, hb, hk, hle, rfl⟩ := hx
    split at e
    · rename_i el hu
      split at e
      · rename_i l h z h1 h2 h3
        split at e
        · rename_i hc
          cases e
          have hcap : h ≤ kc - d := by omega
          refine ⟨.slice (some ⟨g, o + (off + l * z), none⟩) (h - l) (kc - (d + l)), fun w => ?_, g, o, kc, zc, hb, hk, by omega, rfl⟩
          · simp only [Instr.sliceAt, Instr.slice, Sem.run_bind, run_underlying hu, Result.andThen_ok, Sem.run_pure, run_sliceBounds hlo hhi h1 h2 hc.1 hcap, run_sizeOf' h3, Option.map_some, Addr.add_mid]
            have e1 : kc - d - l = kc - (d + l) := by omega
            rw [e1]
            split
            · have : l = 0 := by omega
              subst this; simp
            · simp [Nat.add_assoc]
        · cases e
      · cases e
    · cases e
  · cases (hx : v = _)
    split at e
    · rename_i el hu
      split at e
      · rename_i z h1 h2 h3
        cases e
        refine ⟨.slice none 0 0, fun w => ?_, rfl⟩
        simp only [Instr.sliceAt, Instr.slice, Sem.run_bind, run_underlying hu, Result.andThen_ok, Sem.run_pure, run_sliceBounds hlo hhi h1 h2 (Nat.le_refl _) (Nat.le_refl _), run_sizeOf' h3]
        rfl
      · cases e
    · cases e
  · cases e
def aSlice3 (P : Program) (t : TypeId) (lo : Option CV) (hi mx : CV) : CV → Option CV
  | .sc b off _ cap => match P.underlying t with
    | some (.slice el) => match litI lo 0, litI (some hi) 0, litI (some mx) 0, sizeT P el with
      | some l, some h, some m, some z => if l ≤ h ∧ h ≤ m ∧ m ≤ cap then some (.sc b (if m = l then off else off + l * z) (h - l) (m - l)) else none
      | _, _, _, _ => none
    | _ => none
  | .sr b off len _ _ => match P.underlying t with
    | some (.slice el) => match litI lo 0, litI (some hi) 0, litI (some mx) 0, sizeT P el with
      | some l, some h, some m, some z => if l ≤ h ∧ h ≤ m ∧ m ≤ len then some (.sc b (if m = l then off else off + l * z) (h - l) (m - l)) else none
      | _, _, _, _ => none
    | _ => none
  | .sg b off len _ => match P.underlying t with
    | some (.slice el) => match litI lo 0, litI (some hi) 0, litI (some mx) 0, sizeT P el with
      | some l, some h, some m, some z => if l ≤ h ∧ h ≤ m ∧ m ≤ len then some (.sc b (if m = l then off else off + l * z) (h - l) (m - l)) else none
      | _, _, _, _ => none
    | _ => none
  | .nsl => match P.underlying t with
    | some (.slice el) => match litI lo 0, litI (some hi) 0, litI (some mx) 0, sizeT P el with
      | some 0, some 0, some 0, some _ => some .nsl
      | _, _, _, _ => none
    | _ => none
  | _ => none
theorem run_sliceBounds3 {ρ : Env} {lo : Option CV} {vlo : Option Value} {hi mx : CV} {vh vm : Value} (hlo : oRel ρ lo vlo) (hh : CRel ρ hi vh) (hm : CRel ρ mx vm) {len cap l h m : Nat} {b : Bool} (el : litI lo 0 = some l) (eh : litI (some hi) 0 = some h) (em : litI (some mx) 0 = some m) (c1 : l ≤ h) (c2 : h ≤ m) (c3 : m ≤ cap) (w : World) :
    (Instr.sliceBounds b len cap vlo (some vh) (some vm)).run P w = .ok (l, h, m) w := by
  cases vlo with
  | none =>
    cases lo with
    | some x => exact hlo.elim
    | none => cases el; simp [Instr.sliceBounds, run_litBound hm em c3, run_litBound hh eh c2]
  | some v =>
    cases lo with
    | none => exact hlo.elim
    | some x => simp [Instr.sliceBounds, run_litBound hm em c3, run_litBound hh eh c2, run_litBound hlo el c1]
theorem aSlice3_ok {ρ : Env} {t : TypeId} {lo : Option CV} {hi mx : CV} {vlo : Option Value} {vh vm : Value} (hlo : oRel ρ lo vlo) (hh : CRel ρ hi vh) (hm : CRel ρ mx vm) {x y : CV} {v : Value} (hx : CRel ρ x v) (e : aSlice3 P t lo hi mx x = some y) : ∃ u, (∀ w, (Instr.sliceAt t v vlo (some vh) (some vm)).run P w = .ok u w) ∧ CRel ρ y u := by
  have key : ∀ (b off n c g o : Nat) (el : TypeId), P.underlying t = some (.slice el) → ρ.blk b = some (g, o) → ∀ l h m z, litI lo 0 = some l → litI (some hi) 0 = some h → litI (some mx) 0 = some m → sizeT P el = some z → l ≤ h → h ≤ m → m ≤ c →
      ∃ u, (∀ w, (Instr.sliceAt t (.slice (some ⟨g, o + off, none⟩) n c) vlo (some vh) (some vm)).run P w = .ok u w) ∧ CRel ρ (.sc b (if m = l then off else off + l * z) (h - l) (m - l)) u := by
    intro b off n c g o el hu hb l h m z h1 h2 h3 h4 c1 c2 c3
    refine ⟨.slice (some (if m = l then ⟨g, o + off, none⟩ else ⟨g, o + off + l * z, none⟩)) (h - l) (m - l), fun w => ?_, g, o, hb, ?_⟩
    · simp only [Instr.sliceAt, Instr.slice, Sem.run_bind, run_underlying hu, Result.andThen_ok, Sem.run_pure, run_sliceBounds3 hlo hh hm h1 h2 h3 c1 c2 c3, run_sizeOf' h4, Option.map_some, Addr.add_mid]
      split <;> rfl
    · split <;> simp [Nat.add_assoc]
  unfold aSlice3 at e
  split at e
  · rename_i b off len cap
    obtain ⟨g, o, hb, rfl⟩ := hx
    split at e
    · rename_i el hu
      split at e
      · rename_i l h m z h1 h2 h3 h4
        split at e
        · rename_i hc
          cases e
          exact key b off len cap g o el hu hb l h m z h1 h2 h3 h4 hc.1 hc.2.1 hc.2.2
        · cases e
      · cases e
    · cases e
  · rename_i b off len ic d
    obtain ⟨g, o, kc, hb, _, hle, rfl⟩ := hx
    split at e
    · rename_i el hu
      split at e
      · rename_i l h m z h1 h2 h3 h4
        split at e
        · rename_i hc
          cases e
          exact key b off len _ g o el hu hb l h m z h1 h2 h3 h4 hc.1 hc.2.1 (by omega)
        · cases e
      · cases e
    · cases e
  · rename_i b off len d
    obtain ⟨g, o, kc, zc, hb, _, hle, rfl⟩ := hx
    split at e
    · rename_i el hu
      split at e
      · rename_i l h m z h1 h2 h3 h4
        split at e
        · rename_i hc
          cases e
          exact key b off len _ g o el hu hb l h m z h1 h2 h3 h4 hc.1 hc.2.1 (by omega)
        · cases e
      · cases e
    · cases e
  · cases (hx : v = _)
    split at e
    · rename_i el hu
      split at e
      · rename_i z h1 h2 h3 h4
        cases e
        refine ⟨.slice none 0 0, fun w => ?_, rfl⟩
        simp only [Instr.sliceAt, Instr.slice, Sem.run_bind, run_underlying hu, Result.andThen_ok, Sem.run_pure, run_sliceBounds3 hlo hh hm h1 h2 h3 (Nat.le_refl _) (Nat.le_refl _) (Nat.le_refl _), run_sizeOf' h4]
        rfl
      · cases e
    · cases e
  · cases e
def numOf : CV → Option (IntKind × IA)
  | .il k n => some (k, .l n)
  | .iv k i => some (k, .v i)
  | _ => none
theorem numOf_rel {ρ : Env} {x : CV} {v : Value} (h : CRel ρ x v) {k : IntKind} {a : IA} (e : numOf x = some (k, a)) : v = .int k (a.ev ρ.m) := by
  cases x <;> simp only [numOf, Option.some.injEq, reduceCtorEq, Prod.mk.injEq] at e
  · obtain ⟨rfl, rfl⟩ := e; exact h
  · obtain ⟨rfl, rfl⟩ := e
    obtain ⟨n, hn, rfl⟩ := h
    show Value.int _ n = Value.int _ (ρ.m.I.getD _ 0)
    rw [List.getD_eq_getElem?_getD, hn]; rfl
def rangeOf (s : St) : IA → Option (Int × Int)
  | .l n => some (n, n)
  | .v i => s.rng.get i
structure MRel' (ρ : Env) (s : St) : Prop where
  nI : ρ.m.I.length = s.rng.n
  nB : ρ.m.B.length = s.nB
  nS : ρ.m.S.length = s.nS
  rng : ∀ (i : Nat) (lo hi n : Int), s.rng.get i = some (lo, hi) → ρ.m.I[i]? = some n → lo ≤ n ∧ n ≤ hi
  frac : ∀ (i : Nat) (t : Value × Value × Value), ρ.F i = some t → t.1 = .bool (decide ((ρ.m.q i).num < 0))
  fit : ∀ (i k : Nat) (t : Value × Value × Value), ρ.F i = some t → s.fit.get i = some k → k ≤ 2432 → ρ.m.nat i < 2 ^ k ∧ ∃ a c, t.2.1 = .slice a (nlB (ρ.m.nat i)) c
theorem SRel.m' {ρ : Env} {s : St} {w : World} (H : SRel T w0 ρ s w) : MRel' ρ s := ⟨H.m.nI, H.m.nB, H.m.nS, H.m.rng, fun i t e => by
    obtain ⟨q, _, h1, _, h2⟩ := H.m.frac i t e
    have hq : ρ.m.q i = q := by unfold M.q; rw [List.getD_eq_getElem?_getD, h1]; rfl
    rw [hq]; exact h2.neg, fun i k t e h hk => by
    obtain ⟨q, k', h1, h3, h2⟩ := H.m.frac i t e
    rw [h] at h3; cases h3
    have hq : ρ.m.q i = q := by unfold M.q; rw [List.getD_eq_getElem?_getD, h1]; rfl
    unfold M.nat; rw [hq]; exact ⟨(fits_lt (H.m.fit i k q h h1) hk).1, T.len (h2.fa hk)⟩⟩
theorem rangeOf_ok {ρ : Env} {s : St} (H : MRel' ρ s) {a : IA} {lo hi : Int} (e : rangeOf s a = some (lo, hi)) : lo ≤ a.ev ρ.m ∧ a.ev ρ.m ≤ hi := by
  cases a with
  | l n => cases e; exact ⟨Int.le_refl _, Int.le_refl _⟩
  | v i =>
    have hlt : i < ρ.m.I.length := by rw [H.nI]; exact Sq.get_lt e
    have := H.rng i lo hi _ e (List.getElem?_eq_getElem hlt)
    show lo ≤ ρ.m.I.getD i 0 ∧ ρ.m.I.getD i 0 ≤ hi
    rw [List.getD_eq_getElem?_getD, List.getElem?_eq_getElem hlt]
    exact this
def litC (s : St) : CV → CV
  | .iv k i => match s.rng.get i with
    | some (lo, hi) => if lo = hi then .il k lo else .iv k i
    | none => .iv k i
  | x => x
theorem litC_rel {ρ : Env} {s : St} (H : MRel' ρ s) {x : CV} {v : Value} (h : CRel ρ x v) : CRel ρ (litC s x) v := by
  cases x <;> try exact h
  rename_i k i
  unfold litC
  simp only
  split
  · rename_i lo hi e
    split
    · rename_i he
      obtain ⟨n, hn, rfl⟩ := h
      have := H.rng i lo hi n e hn
      have : n = lo := by omega
      subst this
      exact rfl
    · exact h
  · exact h
def min4 (a b c d : Int) : Int := min (min a b) (min c d)
def max4 (a b c d : Int) : Int := max (max a b) (max c d)
theorem mul_bounds {x y a b c d : Int} (h1 : a ≤ x) (h2 : x ≤ b) (h3 : c ≤ y) (h4 : y ≤ d) : min4 (a * c) (a * d) (b * c) (b * d) ≤ x * y ∧ x * y ≤ max4 (a * c) (a * d) (b * c) (b * d) := by
  have key : ∀ {p q r : Int} (z : Int), p ≤ q → q ≤ r → min (p * z) (r * z) ≤ q * z ∧ q * z ≤ max (p * z) (r * z) := by
    intro p q r z h1 h2
    rcases Int.le_total 0 z with hz | hz
    · have e1 := Int.mul_le_mul_of_nonneg_right h1 hz
      have e2 := Int.mul_le_mul_of_nonneg_right h2 hz
      omega
    · have e1 := Int.mul_le_mul_of_nonpos_right h1 hz
      have e2 := Int.mul_le_mul_of_nonpos_right h2 hz
      omega
  have k1 := key y h1 h2
  have k2 := key a h3 h4
  have k3 := key b h3 h4
  rw [Int.mul_comm c a, Int.mul_comm y a, Int.mul_comm d a] at k2
  rw [Int.mul_comm c b, Int.mul_comm y b, Int.mul_comm d b] at k3
  unfold min4 max4
  omega
theorem wrap_in {k : IntKind} {n : Int} (h0 : k.min ≤ n) (h1 : n ≤ k.max) : k.wrap n = n := by
  cases k <;> simp only [IntKind.min, IntKind.max, IntKind.bits, IntKind.signed] at h0 h1 <;> simp only [IntKind.wrap, IntKind.bits, IntKind.signed] <;> simp at * <;> omega
def mkI (s : St) (k : IntKind) (d : ID) (lo hi : Int) : Tree (TV × St) :=
  if k.min ≤ lo ∧ hi ≤ k.max then (if lo = hi then .leaf (.v (.c (.il k lo)), s) else .letI d (.leaf (.v (.c (.iv k s.rng.n)), s.addI lo hi))) else .fail "overflow"
theorem mkI_ok {ρ : Env} {s : St} (H : MRel' ρ s) {k : IntKind} {d : ID} {lo hi : Int} (h0 : lo ≤ d.ev ρ.m) (h1 : d.ev ρ.m ≤ hi) {sem : Sem Value} (hr : k.wrap (d.ev ρ.m) = d.ev ρ.m → ∀ w, sem.run P w = .ok (.int k (d.ev ρ.m)) w) :
    VPure T w0 P ρ s sem (mkI s k d lo hi) := by
  unfold mkI
  split
  · rename_i hc
    split
    · rename_i he
      have e : d.ev ρ.m = lo := by omega
      rw [e] at hr
      exact VPure.leaf (v := .int k lo) rfl (hr (wrap_in (by omega) (by omega)))
    intro K hK
    have := hK _ rfl
    refine ⟨ρ.withM (ρ.m.pushI (d.ev ρ.m)), _, _, .int k (d.ev ρ.m), this, Env.le_withM (M.le_pushI _ _), rfl, rfl, rfl, fun w1 H1 => H1.pushI h0 h1, ⟨d.ev ρ.m, ?_, rfl⟩, hr (wrap_in (by omega) (by omega))⟩
    show (ρ.m.I ++ [d.ev ρ.m])[s.rng.n]? = some _
    rw [← H.nI]; simp
  · exact VPure.fail
theorem wrap_min_max (k : IntKind) (n : Int) : k.min ≤ k.wrap n ∧ k.wrap n ≤ k.max := by
  cases k <;> simp [IntKind.min, IntKind.max, IntKind.wrap, IntKind.bits, IntKind.signed] <;> (constructor <;> (try split) <;> omega)
def mkW (s : St) (k : IntKind) (d : ID) (lo hi : Int) : Tree (TV × St) :=
  if k.min ≤ lo ∧ hi ≤ k.max then (if lo = hi then .leaf (.v (.c (.il k lo)), s) else .letI d (.leaf (.v (.c (.iv k s.rng.n)), s.addI lo hi)))
  else .letI d (.letI (.wrap k (.v s.rng.n)) (.leaf (.v (.c (.iv k (s.rng.n + 1))), (s.addI lo hi).addI k.min k.max)))
theorem mkW_ok {ρ : Env} {s : St} (H : MRel' ρ s) {k : IntKind} {d : ID} {lo hi : Int} (h0 : lo ≤ d.ev ρ.m) (h1 : d.ev ρ.m ≤ hi) {sem : Sem Value} (hr : ∀ w, sem.run P w = .ok (.int k (k.wrap (d.ev ρ.m))) w) :
    VPure T w0 P ρ s sem (mkW s k d lo hi) := by
  unfold mkW
  split
  · rename_i hc
    split
    · rename_i he
      have e : d.ev ρ.m = lo := by omega
      rw [e, wrap_in (by omega) (by omega)] at hr
      exact VPure.leaf (v := .int k lo) rfl hr
    intro K hK
    have := hK _ rfl
    refine ⟨ρ.withM (ρ.m.pushI (d.ev ρ.m)), _, _, .int k (d.ev ρ.m), this, Env.le_withM (M.le_pushI _ _), rfl, rfl, rfl, fun w1 H1 => H1.pushI h0 h1, ⟨d.ev ρ.m, ?_, rfl⟩, fun w => by rw [hr w, wrap_in (by omega) (by omega)]⟩
    show (ρ.m.I ++ [d.ev ρ.m])[s.rng.n]? = some _
    rw [← H.nI]; simp
  · intro K hK
    have hv : (IA.v s.rng.n).ev (ρ.m.pushI (d.ev ρ.m)) = d.ev ρ.m := by
      show (ρ.m.I ++ [d.ev ρ.m]).getD s.rng.n 0 = _
      rw [List.getD_eq_getElem?_getD, ← H.nI]; simp
    have := hK _ rfl (k.wrap (d.ev ρ.m)) (by show _ = k.wrap ((IA.v s.rng.n).ev _); rw [hv])
    have hb := wrap_min_max k (d.ev ρ.m)
    refine ⟨ρ.withM ((ρ.m.pushI (d.ev ρ.m)).pushI (k.wrap (d.ev ρ.m))), _, _, .int k (k.wrap (d.ev ρ.m)), this, Env.le_withM ((M.le_pushI _ _).trans (M.le_pushI _ _)), rfl, rfl, rfl, fun w1 H1 => (H1.pushI h0 h1).pushI hb.1 hb.2, ⟨k.wrap (d.ev ρ.m), ?_, rfl⟩, hr⟩
    show ((ρ.m.I ++ [d.ev ρ.m]) ++ [k.wrap (d.ev ρ.m)])[s.rng.n + 1]? = some _
    rw [← H.nI]; simp
def mkB (s : St) (d : BD) : Tree (TV × St) := .letB d (.leaf (.v (.c (.bv s.nB)), s.addB))
theorem mkB_ok {ρ : Env} {s : St} (H : MRel' ρ s) {d : BD} {sem : Sem Value} (hr : ∀ w, sem.run P w = .ok (.bool (d.ev ρ.m)) w) : VPure T w0 P ρ s sem (mkB s d) := by
  intro K hK
  have := hK _ rfl
  refine ⟨ρ.withM (ρ.m.pushB (d.ev ρ.m)), _, _, .bool (d.ev ρ.m), this, Env.le_withM (M.le_pushB _ _), rfl, rfl, rfl, fun w1 H1 => H1.pushB _, ⟨d.ev ρ.m, ?_, rfl⟩, hr⟩
  show (ρ.m.B ++ [d.ev ρ.m])[s.nB]? = some _
  rw [← H.nB]; simp
def isLit : IA → Option Int
  | .l n => some n
  | .v _ => none
theorem isLit_ev {a : IA} {n : Int} (h : isLit a = some n) (m : M) : a.ev m = n := by cases a <;> cases h; rfl
def splitL (k : IntKind) (i : Nat) : Nat → Int → St → Tree (TV × St)
  | 0, c, s => .leaf (.v (.c (.il k c)), s)
  | n + 1, c, s => .letB (.eq (.v i) (.l c)) (.ifB s.nB (.leaf (.v (.c (.il k c)), s.addB)) (splitL k i n (c + 1) s.addB))
theorem MRel'.pushB {ρ : Env} {s : St} (H : MRel' ρ s) (b : Bool) : MRel' (ρ.withM (ρ.m.pushB b)) s.addB :=
  ⟨H.nI, by simp [Env.withM, M.pushB, St.addB_eq, H.nB], H.nS, H.rng, H.frac, H.fit⟩
theorem splitL_ok {k : IntKind} {i : Nat} {sem : Sem Value} {x : Int} (hr : ∀ w, sem.run P w = .ok (.int k x) w) : ∀ (n : Nat) {ρ : Env} {s : St}, MRel' ρ s → ∀ {c : Int}, ρ.m.I[i]? = some x → c ≤ x → x ≤ c + n → VPure T w0 P ρ s sem (splitL k i n c s)
  | 0, ρ, s, _, c, _, h1, h2 => by
    have : x = c := by omega
    subst this
    exact VPure.leaf (v := .int k x) rfl hr
  | n + 1, ρ, s, H, c, hx, h1, h2 => by
    intro K hK
    have hK := hK _ rfl
    have e1 : (BD.eq (.v i) (.l c)).ev ρ.m = decide (x = c) := by
      show decide (ρ.m.I.getD i 0 = c) = _
      rw [List.getD_eq_getElem?_getD, hx]; rfl
    rw [e1] at hK
    have hbit : (ρ.m.pushB (decide (x = c))).b s.nB = decide (x = c) := by
      unfold M.b M.pushB
      rw [← H.nB]
      simp [List.getD_eq_getElem?_getD]
    by_cases hc : x = c
    · have hK := hK.1 (by rw [hbit]; simpa using hc)
      exact ⟨ρ.withM (ρ.m.pushB (decide (x = c))), .v (.c (.il k c)), s.addB, .int k c, hK, Env.le_withM (M.le_pushB _ _), rfl, rfl, rfl, fun w1 H1 => H1.pushB _, rfl, fun w => by rw [hr, hc]⟩
    · have hK := hK.2 (by rw [hbit]; simpa using hc)
      obtain ⟨ρ', tv, s', v, k1, k2, k3, k4, k5, k6, k7, k8⟩ := splitL_ok hr n (H.pushB (decide (x = c))) (c := c + 1) hx (by omega) (by omega) K hK
      exact ⟨ρ', tv, s', v, k1, (Env.le_withM (M.le_pushB _ _)).trans k2, k3, k4, k5, fun w1 H1 => k6 w1 (H1.pushB _), k7, k8⟩
def mkSp (s : St) (k : IntKind) (d : ID) (lo hi : Int) : Tree (TV × St) := .letI d (splitL k s.rng.n (hi - lo).toNat lo (s.addI lo hi))
theorem MRel'.pushI {ρ : Env} {s : St} (H : MRel' ρ s) {n lo hi : Int} (h0 : lo ≤ n) (h1 : n ≤ hi) : MRel' (ρ.withM (ρ.m.pushI n)) (s.addI lo hi) :=
  ⟨by simp [Env.withM, M.pushI, St.addI_eq, Sq.push, H.nI], H.nB, H.nS, fun i l h k e1 e2 => by
    rcases Sq.get_push (q := s.rng) e1 with ⟨_, e1⟩ | ⟨e1, e3⟩ <;> rcases snoc_get e2 with e2 | ⟨e2, e4⟩
    · exact H.rng i l h k e1 e2
    · have := Sq.get_lt e1; have := H.nI; omega
    · have := (List.getElem?_eq_some_iff.1 e2).1; have := H.nI; omega
    · cases e3; subst e4; exact ⟨h0, h1⟩, H.frac, H.fit⟩
theorem mkSp_ok {ρ : Env} {s : St} (H : MRel' ρ s) {k : IntKind} {d : ID} {lo hi : Int} (h0 : lo ≤ d.ev ρ.m) (h1 : d.ev ρ.m ≤ hi) {sem : Sem Value} (hr : ∀ w, sem.run P w = .ok (.int k (d.ev ρ.m)) w) : VPure T w0 P ρ s sem (mkSp s k d lo hi) := by
  intro K hK
  have hK := hK _ rfl
  obtain ⟨ρ', tv, s', v, k1, k2, k3, k4, k5, k6, k7, k8⟩ := splitL_ok (i := s.rng.n) hr (hi - lo).toNat (H.pushI h0 h1) (c := lo) (by
    show (ρ.m.I ++ [d.ev ρ.m])[s.rng.n]? = some _
    rw [← H.nI]; simp) h0 (by omega) K hK
  exact ⟨ρ', tv, s', v, k1, (Env.le_withM (M.le_pushI _ _)).trans k2, k3, k4, k5, fun w1 H1 => k6 w1 (H1.pushI h0 h1), k7, k8⟩
def aArithV (s : St) (op : BinOp) (k : IntKind) (a b : IA) : Tree (TV × St) :=
  match rangeOf s a, rangeOf s b with
  | some (al, ah), some (bl, bh) => match op with
    | .add => mkW s k (.add a b) (al + bl) (ah + bh)
    | .sub => mkW s k (.sub a b) (al - bh) (ah - bl)
    | .mul => mkW s k (.mul a b) (min4 (al * bl) (al * bh) (ah * bl) (ah * bh)) (max4 (al * bl) (al * bh) (ah * bl) (ah * bh))
    | .quo => if 0 < bl then mkI s k (.quo a b) (min al 0) (max ah 0) else if bl = 0 then .need (.lt (.l 0) b) (mkI s k (.quo a b) (min al 0) (max ah 0)) else .fail "quo"
    | .rem => if 0 < bl then mkI s k (.rem a b) (if 0 ≤ al then 0 else 1 - bh) (bh - 1) else .fail "rem"
    | _ => .fail "arith"
  | _, _ => .fail "arith: range"
def aArith (s : St) (op : BinOp) (k : IntKind) (a b : IA) : Tree (TV × St) :=
  match op, isLit a, isLit b with
  | .add, some x, some y => .leaf (.v (.c (.il k (k.wrap (x + y)))), s)
  | .sub, some x, some y => .leaf (.v (.c (.il k (k.wrap (x - y)))), s)
  | .mul, some x, some y => .leaf (.v (.c (.il k (k.wrap (x * y)))), s)
  | .quo, some x, some y => if y = 0 then .fail "by 0" else .leaf (.v (.c (.il k (k.wrap (x.tdiv y)))), s)
  | .rem, some x, some y => if y = 0 then .fail "by 0" else .leaf (.v (.c (.il k (x.tmod y))), s)
  | _, _, _ => aArithV s op k a b
theorem tdiv_bounds {x y a b : Int} (h1 : a ≤ x) (h2 : x ≤ b) (hy : 0 < y) : min a 0 ≤ x.tdiv y ∧ x.tdiv y ≤ max b 0 := by
  rcases Int.le_total 0 x with hx | hx
  · have e1 : 0 ≤ x.tdiv y := Int.tdiv_nonneg hx (by omega)
    have e2 : x.tdiv y ≤ x := by rw [Int.tdiv_eq_ediv_of_nonneg hx]; exact Int.ediv_le_self _ hx
    omega
  · have e : x.tdiv y = -((-x).tdiv y) := by rw [Int.neg_tdiv]; omega
    have e1 : 0 ≤ (-x).tdiv y := Int.tdiv_nonneg (by omega) (by omega)
    have e2 : (-x).tdiv y ≤ -x := by rw [Int.tdiv_eq_ediv_of_nonneg (by omega)]; exact Int.ediv_le_self _ (by omega)
    omega
theorem tmod_bounds {x y a bh : Int} (h1 : a ≤ x) (hy : 0 < y) (hb : y ≤ bh) : (if 0 ≤ a then 0 else 1 - bh) ≤ x.tmod y ∧ x.tmod y ≤ bh - 1 := by
  have e2 := Int.tmod_lt_of_pos x hy
  refine ⟨?_, by omega⟩
  split
  · exact Int.tmod_nonneg _ (by omega)
  · rcases Int.le_total 0 x with hx | hx
    · have := Int.tmod_nonneg y hx; omega
    · have e : x.tmod y = -((-x).tmod y) := by rw [Int.neg_tmod]; omega
      have := Int.tmod_lt_of_pos (-x) hy
      omega
theorem aArithV_ok {ρ : Env} {s : St} (H : MRel' ρ s) {op : BinOp} {k : IntKind} {a b : IA} {t1 : TypeId} {sem : Sem Value}
    (hs : op = .add ∨ op = .sub ∨ op = .mul ∨ op = .quo ∨ op = .rem → sem = binOp op t1 (.int k (a.ev ρ.m)) (.int k (b.ev ρ.m))) : VPure T w0 P ρ s sem (aArithV s op k a b) := by
  unfold aArithV
  split
  · rename_i al ah bl bh ha hb
    have ra := rangeOf_ok H ha
    have rb := rangeOf_ok H hb
    split
    · rw [hs (by simp)]
      refine mkW_ok H (by simp only [ID.ev]; omega) (by simp only [ID.ev]; omega) (fun w => ?_)
      simp [binOp, Op.intArith, ID.ev]
    · rw [hs (by simp)]
      refine mkW_ok H (by simp only [ID.ev]; omega) (by simp only [ID.ev]; omega) (fun w => ?_)
      simp [binOp, Op.intArith, ID.ev]
    · rw [hs (by simp)]
      have hm := mul_bounds ra.1 ra.2 rb.1 rb.2
      refine mkW_ok H (by simp only [ID.ev]; exact hm.1) (by simp only [ID.ev]; exact hm.2) (fun w => ?_)
      simp [binOp, Op.intArith, ID.ev]
    · split
      · rename_i hp
        rw [hs (by simp)]
        have hd := tdiv_bounds ra.1 ra.2 (by omega : 0 < b.ev ρ.m)
        refine mkI_ok H (by simp only [ID.ev]; exact hd.1) (by simp only [ID.ev]; exact hd.2) (fun e w => ?_)
        simp only [ID.ev] at e
        have hne : ¬ b.ev ρ.m = 0 := by omega
        simp [binOp, Op.intDiv, ID.ev, e, hne]
      · split
        · intro K hK
          obtain ⟨hp, hK⟩ := hK
          have hp : 0 < b.ev ρ.m := of_decide_eq_true hp
          rw [hs (by simp)]
          have hd := tdiv_bounds ra.1 ra.2 hp
          refine mkI_ok H (by simp only [ID.ev]; exact hd.1) (by simp only [ID.ev]; exact hd.2) (fun e w => ?_) K hK
          simp only [ID.ev] at e
          have hne : ¬ b.ev ρ.m = 0 := by omega
          simp [binOp, Op.intDiv, ID.ev, e, hne]
        · exact VPure.fail
    · split
      · rename_i hp
        rw [hs (by simp)]
        have hd := tmod_bounds ra.1 (by omega : 0 < b.ev ρ.m) rb.2
        refine mkI_ok H (by simp only [ID.ev]; exact hd.1) (by simp only [ID.ev]; exact hd.2) (fun e w => ?_)
        have hne : ¬ b.ev ρ.m = 0 := by omega
        simp [binOp, Op.intDiv, ID.ev, hne]
      · exact VPure.fail
    · exact VPure.fail
  · exact VPure.fail
theorem aArith_ok {ρ : Env} {s : St} (H : MRel' ρ s) {op : BinOp} {k : IntKind} {a b : IA} {t1 : TypeId} {sem : Sem Value}
    (hs : op = .add ∨ op = .sub ∨ op = .mul ∨ op = .quo ∨ op = .rem → sem = binOp op t1 (.int k (a.ev ρ.m)) (.int k (b.ev ρ.m))) : VPure T w0 P ρ s sem (aArith s op k a b) := by
  unfold aArith
  split
  · rename_i x y hx hy
    rw [hs (by simp), isLit_ev hx, isLit_ev hy]
    exact VPure.leaf (v := .int k (k.wrap (x + y))) rfl (fun w => by simp [binOp, Op.intArith])
  · rename_i x y hx hy
    rw [hs (by simp), isLit_ev hx, isLit_ev hy]
    exact VPure.leaf (v := .int k (k.wrap (x - y))) rfl (fun w => by simp [binOp, Op.intArith])
  · rename_i x y hx hy
    rw [hs (by simp), isLit_ev hx, isLit_ev hy]
    exact VPure.leaf (v := .int k (k.wrap (x * y))) rfl (fun w => by simp [binOp, Op.intArith])
  · rename_i x y hx hy
    split
    · exact VPure.fail
    · rename_i hne
      rw [hs (by simp), isLit_ev hx, isLit_ev hy]
      exact VPure.leaf (v := .int k (k.wrap (x.tdiv y))) rfl (fun w => by simp [binOp, Op.intDiv, hne])
  · rename_i x y hx hy
    split
    · exact VPure.fail
    · rename_i hne
      rw [hs (by simp), isLit_ev hx, isLit_ev hy]
      exact VPure.leaf (v := .int k (x.tmod y)) rfl (fun w => by simp [binOp, Op.intDiv, hne])
  · exact aArithV_ok H hs
end
end Go.Proofs.VM
namespace Go.Proofs.VM
open Go.RowKit
noncomputable section
variable {T : FT} {w0 : World} {P : Program}
theorem int_beq (x y : Int) : (x == y) = decide (x = y) := by rw [Bool.eq_iff_iff]; simp
def bLit (b : Bool) (s : St) : Tree (TV × St) := .leaf (.v (.c (.bl b)), s)
theorem bLit_ok {ρ : Env} {s : St} {b : Bool} {sem : Sem Value} (h : ∀ w, sem.run P w = .ok (.bool b) w) : VPure T w0 P ρ s sem (bLit b s) := VPure.leaf (v := .bool b) rfl h
def knownLt (s : St) (a b : IA) : Option Bool :=
  match rangeOf s a, rangeOf s b with
  | some (al, ah), some (bl, bh) => if ah < bl then some true else if bh ≤ al then some false else none
  | _, _ => none
theorem knownLt_ok {ρ : Env} {s : St} (H : MRel' ρ s) {a b : IA} {x : Bool} (e : knownLt s a b = some x) : decide (a.ev ρ.m < b.ev ρ.m) = x := by
  unfold knownLt at e
  split at e
  · rename_i al ah bl bh ha hb
    have ra := rangeOf_ok H ha
    have rb := rangeOf_ok H hb
    split at e
    · cases e; simp; omega
    · split at e
      · cases e; simp; omega
      · cases e
  · cases e
def knownEq (s : St) (a b : IA) : Option Bool :=
  match rangeOf s a, rangeOf s b with
  | some (al, ah), some (bl, bh) => if ah < bl ∨ bh < al then some false else if al = ah ∧ bl = bh ∧ al = bl then some true else none
  | _, _ => none
theorem knownEq_ok {ρ : Env} {s : St} (H : MRel' ρ s) {a b : IA} {x : Bool} (e : knownEq s a b = some x) : decide (a.ev ρ.m = b.ev ρ.m) = x := by
  unfold knownEq at e
  split at e
  · rename_i al ah bl bh ha hb
    have ra := rangeOf_ok H ha
    have rb := rangeOf_ok H hb
    split at e
    · cases e; simp; omega
    · split at e
      · cases e; simp; omega
      · cases e
  · cases e
def aCmp (s : St) (op : BinOp) (a b : IA) : Tree (TV × St) :=
  match op with
  | .eql => match knownEq s a b with | some x => bLit x s | none => mkB s (.eq a b)
  | .neq => match knownEq s a b with | some x => bLit (!x) s | none => mkB s (.ne a b)
  | .lss => match knownLt s a b with | some x => bLit x s | none => mkB s (.lt a b)
  | .gtr => match knownLt s b a with | some x => bLit x s | none => mkB s (.lt b a)
  | .leq => match knownLt s b a with | some x => bLit (!x) s | none => mkB s (.le a b)
  | .geq => match knownLt s a b with | some x => bLit (!x) s | none => mkB s (.le b a)
  | _ => .fail "cmp"
theorem aCmp_ok {ρ : Env} {s : St} (H : MRel' ρ s) {op : BinOp} {a b : IA} {sem : Sem Value} (hs : sem = Op.intCmp op (a.ev ρ.m) (b.ev ρ.m)) : VPure T w0 P ρ s sem (aCmp s op a b) := by
  subst hs
  unfold aCmp
  split
  · split
    · rename_i x hx
      exact bLit_ok (fun w => by have := knownEq_ok H hx; simp [Op.intCmp, ← this, int_beq])
    · exact mkB_ok H (fun w => by simp [Op.intCmp, BD.ev, int_beq])
  · split
    · rename_i x hx
      exact bLit_ok (fun w => by have := knownEq_ok H hx; simp [Op.intCmp, ← this, bne, int_beq])
    · exact mkB_ok H (fun w => by simp [Op.intCmp, BD.ev, bne, int_beq])
  · split
    · rename_i x hx
      exact bLit_ok (fun w => by have := knownLt_ok H hx; simp [Op.intCmp, ← this])
    · exact mkB_ok H (fun w => by simp [Op.intCmp, BD.ev])
  · split
    · rename_i x hx
      exact bLit_ok (fun w => by have := knownLt_ok H hx; simp [Op.intCmp, ← this])
    · exact mkB_ok H (fun w => by simp [Op.intCmp, BD.ev])
  · split
    · rename_i x hx
      exact bLit_ok (fun w => by have := knownLt_ok H hx; simp only [Op.intCmp, ← this, Sem.run_pure]; congr 2; rw [Bool.eq_iff_iff]; simp)
    · exact mkB_ok H (fun w => by simp [Op.intCmp, BD.ev])
  · split
    · rename_i x hx
      exact bLit_ok (fun w => by have := knownLt_ok H hx; simp only [Op.intCmp, ← this, Sem.run_pure]; congr 2; rw [Bool.eq_iff_iff]; simp)
    · exact mkB_ok H (fun w => by simp [Op.intCmp, BD.ev])
  · exact VPure.fail
def strOf : CV → Option SA
  | .sl s => some (.l s)
  | .sv i => some (.v i)
  | _ => none
theorem strOf_rel {ρ : Env} {x : CV} {v : Value} (h : CRel ρ x v) {a : SA} (e : strOf x = some a) : v = .string ⟨(a.ev ρ.m).toArray⟩ := by
  cases x <;> simp only [strOf, Option.some.injEq, reduceCtorEq] at e
  · subst e; exact h
  · subst e
    obtain ⟨n, hn, rfl⟩ := h
    show Value.string _ = Value.string ⟨(ρ.m.S.getD _ []).toArray⟩
    rw [List.getD_eq_getElem?_getD, hn]; rfl
def sLit : SA → Option (List UInt8)
  | .l s => some s
  | .v _ => none
theorem sLit_ev {a : SA} {s : List UInt8} (h : sLit a = some s) (m : M) : a.ev m = s := by cases a <;> cases h; rfl
def aStr (s : St) (op : BinOp) (a b : SA) : Tree (TV × St) :=
  match op, sLit a, sLit b with
  | .eql, some x, some y => bLit (decide (x = y)) s
  | .neq, some x, some y => bLit (!decide (x = y)) s
  | .add, some x, some y => match Nat.ble (x.length + y.length) 1048576 with
    | true => .leaf (.v (.c (.sl (x ++ y))), s)
    | false => .fail "string"
  | .eql, _, _ => mkB s (.seq a b)
  | .neq, _, _ => mkB s (.sne a b)
  | .add, _, _ => .need (.sfit a b) (.letS (.cat a b) (.leaf (.v (.c (.sv s.nS)), s.addS)))
  | _, _, _ => .fail "string"
theorem bytes_cat (x y : List UInt8) : (⟨x.toArray⟩ : ByteArray) ++ (⟨y.toArray⟩ : ByteArray) = ⟨(x ++ y).toArray⟩ := by
  apply ByteArray.ext
  simp
theorem aStr_ok {ρ : Env} {s : St} (H : MRel' ρ s) {op : BinOp} {a b : SA} {sem : Sem Value} (hs : sem = Op.stringOp op ⟨(a.ev ρ.m).toArray⟩ ⟨(b.ev ρ.m).toArray⟩) : VPure T w0 P ρ s sem (aStr s op a b) := by
  subst hs
  have key : ∀ x y : List UInt8, (x == y) = decide (x = y) := fun x y => by rw [Bool.eq_iff_iff]; simp
  unfold aStr
  split
  · rename_i x y hx hy
    exact bLit_ok (fun w => by rw [sLit_ev hx, sLit_ev hy]; simp [Op.stringOp, key])
  · rename_i x y hx hy
    exact bLit_ok (fun w => by rw [sLit_ev hx, sLit_ev hy]; simp [Op.stringOp, key])
  · rename_i x y hx hy
    split
    · rename_i hl
      have hl := Nat.le_of_ble_eq_true hl
      intro K hK
      have hsz : (((⟨x.toArray⟩ : ByteArray).size : Int) + ((⟨y.toArray⟩ : ByteArray).size : Int) ≤ 9223372036854775807) := by
        show ((x.toArray.size : Int) + (y.toArray.size : Int) ≤ 9223372036854775807)
        simp; omega
      exact ⟨ρ, .v (.c (.sl (x ++ y))), s, .string ⟨(x ++ y).toArray⟩, hK, .refl _, rfl, rfl, rfl, fun w1 H1 => H1, rfl, fun w => by rw [sLit_ev hx, sLit_ev hy]; simp [Op.stringOp, bytes_cat, hsz]⟩
    · exact VPure.fail
  · exact mkB_ok H (fun w => by simp [Op.stringOp, BD.ev, key])
  · exact mkB_ok H (fun w => by simp [Op.stringOp, BD.ev, key])
  · intro K hK
    obtain ⟨hs, hK⟩ := hK
    have hs : (a.ev ρ.m).length + (b.ev ρ.m).length ≤ 1048576 := of_decide_eq_true hs
    have hK := hK _ rfl
    have hsz : (((⟨(a.ev ρ.m).toArray⟩ : ByteArray).size : Int) + ((⟨(b.ev ρ.m).toArray⟩ : ByteArray).size : Int) ≤ 9223372036854775807) := by
      show (((a.ev ρ.m).toArray.size : Int) + ((b.ev ρ.m).toArray.size : Int) ≤ 9223372036854775807)
      simp; omega
    refine ⟨ρ.withM (ρ.m.pushS (a.ev ρ.m ++ b.ev ρ.m)), _, _, .string ⟨(a.ev ρ.m ++ b.ev ρ.m).toArray⟩, hK, Env.le_withM (M.le_pushS _ _), rfl, rfl, rfl, fun w1 H1 => H1.pushS _, ⟨a.ev ρ.m ++ b.ev ρ.m, ?_, rfl⟩, fun w => by simp [Op.stringOp, bytes_cat, hsz]⟩
    show (ρ.m.S ++ [a.ev ρ.m ++ b.ev ρ.m])[s.nS]? = some _
    rw [← H.nS]; simp
  · exact VPure.fail
end
end Go.Proofs.VM
namespace Go.Proofs.VM
open Go.RowKit
noncomputable section
variable {T : FT} {w0 : World} {P : Program}
def aEqFields (P : Program) (x y : List CV) : List Field → Option (List (IA × IA))
  | [] => some []
  | f :: l => match rowT P f.type, P.underlying f.type, (x[f.offset]?).bind numOf, (y[f.offset]?).bind numOf, aEqFields P x y l with
    | some false, some (.int _), some (k, a), some (k', b), some r => if k = k' ∧ f.name ≠ "_" then some ((a, b) :: r) else none
    | _, _, _, _, _ => none
theorem eqFields_ok {ρ : Env} {x y : List CV} {vx vy : List Value} (hx : All2 (CRel ρ) x vx) (hy : All2 (CRel ρ) y vy) (d : Nat) (w : World) : ∀ {l : List Field} {ps : List (IA × IA)}, aEqFields P x y l = some ps →
    (forIn (m := Sem) l ((none, ()) : Option Bool × Unit) fun (f : Field) _ =>
      if f.name ≠ "_" then do
        let __do_lift ← part f.type vx.toArray f.offset
        let __do_lift_1 ← part f.type vy.toArray f.offset
        let __do_lift ← Op.equalIn (d + 1) f.type __do_lift __do_lift_1
        if (!__do_lift) = true then pure (ForInStep.done (some false, ()))
          else pure (ForInStep.yield (none, ()))
      else pure (ForInStep.yield (none, ()))).run P w = .ok (if (ps.all fun p => decide (p.1.ev ρ.m = p.2.ev ρ.m)) = true then none else some false, ()) w
  | [], ps, e => by cases e; rfl
  | f :: l, ps, e => by
    simp only [aEqFields] at e
    split at e
    · rename_i k0 k a k' b r h1 h2 h3 h4 h5
      split at e
      · rename_i hc
        obtain ⟨rfl, hn⟩ := hc
        cases e
        obtain ⟨cx, hcx, hnx⟩ := Option.bind_eq_some_iff.1 h3
        obtain ⟨cy, hcy, hny⟩ := Option.bind_eq_some_iff.1 h4
        obtain ⟨ux, hux, rx⟩ := hx.get hcx
        obtain ⟨uy, huy, ry⟩ := hy.get hcy
        have ex := numOf_rel rx hnx
        have ey := numOf_rel ry hny
        have px : (part f.type vx.toArray f.offset).run P w = .ok ux w := by
          have : vx.toArray[f.offset]? = some ux := by simpa using hux
          simp [part, run_isAgg' h1, this]
        have py : (part f.type vy.toArray f.offset).run P w = .ok uy w := by
          have : vy.toArray[f.offset]? = some uy := by simpa using huy
          simp [part, run_isAgg' h1, this]
        have pe : (Op.equalIn (d + 1) f.type ux uy).run P w = .ok (decide (a.ev ρ.m = b.ev ρ.m)) w := by
          subst ex; subst ey
          unfold Op.equalIn
          simp [run_underlying h2, int_beq]
        rw [List.forIn_cons]
        simp only [hn, ne_eq, not_false_eq_true, if_true, Sem.run_bind, px, py, pe, Result.andThen_ok]
        have ih := eqFields_ok hx hy d w h5
        by_cases hab : a.ev ρ.m = b.ev ρ.m
        · simp only [hab, decide_true, Bool.not_true, Bool.false_eq_true, if_false, Sem.run_pure, Result.andThen_ok, List.all_cons, Bool.true_and]
          exact ih
        · simp [hab]
      · cases e
    · cases e
def aEqItems (x y : List CV) : List Nat → Option (List (IA × IA))
  | [] => some []
  | i :: l => match (x[i]?).bind numOf, (y[i]?).bind numOf, aEqItems x y l with
    | some (k, a), some (k', b), some r => if k = k' then some ((a, b) :: r) else none
    | _, _, _ => none
theorem eqItems_ok {ρ : Env} {x y : List CV} {vx vy : List Value} (hx : All2 (CRel ρ) x vx) (hy : All2 (CRel ρ) y vy) {e : TypeId} {k0 : IntKind} (h1 : rowT P e = some false) (h2 : P.underlying e = some (.int k0)) (d : Nat) (w : World) : ∀ {l : List Nat} {ps : List (IA × IA)}, aEqItems x y l = some ps →
    (Op.eqItems (d + 1) e 1 vx.toArray vy.toArray l).run P w = .ok (ps.all fun p => decide (p.1.ev ρ.m = p.2.ev ρ.m)) w
  | [], ps, h => by cases h; rfl
  | i :: l, ps, h => by
    simp only [aEqItems] at h
    split at h
    · rename_i k a k' b r h3 h4 h5
      split at h
      · rename_i hc
        subst hc
        cases h
        obtain ⟨cx, hcx, hnx⟩ := Option.bind_eq_some_iff.1 h3
        obtain ⟨cy, hcy, hny⟩ := Option.bind_eq_some_iff.1 h4
        obtain ⟨ux, hux, rx⟩ := hx.get hcx
        obtain ⟨uy, huy, ry⟩ := hy.get hcy
        have ex := numOf_rel rx hnx
        have ey := numOf_rel ry hny
        have px : (part e vx.toArray (i * 1)).run P w = .ok ux w := by
          have : vx.toArray[i]? = some ux := by simpa using hux
          simp [part, run_isAgg' h1, this]
        have py : (part e vy.toArray (i * 1)).run P w = .ok uy w := by
          have : vy.toArray[i]? = some uy := by simpa using huy
          simp [part, run_isAgg' h1, this]
        have pe : (Op.equalIn (d + 1) e ux uy).run P w = .ok (decide (a.ev ρ.m = b.ev ρ.m)) w := by
          subst ex; subst ey
          unfold Op.equalIn
          simp [run_underlying h2, int_beq]
        have ih := eqItems_ok hx hy h1 h2 d w h5
        simp only [Op.eqItems, Sem.run_bind, px, py, pe, Result.andThen_ok]
        by_cases hab : a.ev ρ.m = b.ev ρ.m
        · simp only [hab, decide_true, Bool.not_true, Bool.false_eq_true, if_false, List.all_cons, Bool.true_and]
          exact ih
        · simp [hab]
      · cases h
    · cases h
def litPs : List (IA × IA) → Option Bool
  | [] => some true
  | (.l a, .l b) :: r => if a = b then litPs r else some false
  | _ :: r => match litPs r with
    | some false => some false
    | _ => none
theorem litPs_ok {m : M} : ∀ {ps : List (IA × IA)} {b : Bool}, litPs ps = some b → (ps.all fun p => decide (p.1.ev m = p.2.ev m)) = b
  | [], b, h => by cases h; rfl
  | (.l x, .l y) :: r, b, h => by
    unfold litPs at h
    split at h
    · rename_i e
      subst e
      simp [litPs_ok h]
    · rename_i e
      cases h
      simp [IA.ev, e]
  | (.v x, y) :: r, b, h => by
    unfold litPs at h
    split at h
    · rename_i e
      cases h
      simp only [List.all_cons, litPs_ok e, Bool.and_false]
    · cases h
  | (.l x, .v y) :: r, b, h => by
    unfold litPs at h
    split at h
    · rename_i e
      cases h
      simp only [List.all_cons, litPs_ok e, Bool.and_false]
    · cases h
def mkE (s : St) (ps : List (IA × IA)) (eq : Bool) : Tree (TV × St) :=
  match litPs ps with
  | some b => .leaf (.v (.c (.bl (b == eq))), s)
  | none => mkB s (if eq = true then .eqs ps else .nes ps)
theorem mkE_ok {ρ : Env} {s : St} (H : MRel' ρ s) {ps : List (IA × IA)} {eq : Bool} {sem : Sem Value} (hr : ∀ w, sem.run P w = .ok (.bool ((ps.all fun p => decide (p.1.ev ρ.m = p.2.ev ρ.m)) == eq)) w) : VPure T w0 P ρ s sem (mkE s ps eq) := by
  unfold mkE
  split
  · rename_i b hb
    exact VPure.leaf (v := .bool (b == eq)) rfl (fun w => by rw [hr, litPs_ok hb])
  · exact mkB_ok H (fun w => by
      rw [hr]
      cases eq <;> simp [BD.ev])
def aEqAgg (P : Program) (s : St) (op : BinOp) (t : TypeId) (x y : List CV) : Tree (TV × St) :=
  match P.underlying t with
  | some (.struct fs) => if P.stoodInHeld t = false ∧ P.eqGuardType P.depth t = false then match aEqFields P x y fs.toList with
      | some ps => match op with
        | .eql => mkE s ps true
        | .neq => mkE s ps false
        | _ => .fail "agg"
      | none => .fail "agg: fields" else .fail "agg: type"
  | some (.array n e) => match rowT P e, P.underlying e, P.info? e with
    | some false, some (.int _), some _ => if P.cellsOf e = 1 ∧ P.eqGuardType P.depth t = false then match aEqItems x y (List.range n) with
      | some ps => match op with
        | .eql => mkE s ps true
        | .neq => mkE s ps false
        | _ => .fail "agg"
      | none => .fail "agg: items" else .fail "agg: type"
    | _, _, _ => .fail "agg: row"
  | _ => .fail "agg: no struct"
theorem aEqAgg_ok {ρ : Env} {s : St} (H : MRel' ρ s) {op : BinOp} {t : TypeId} {x y : List CV} {vx vy : List Value} (hx : All2 (CRel ρ) x vx) (hy : All2 (CRel ρ) y vy) {o1 o2 : Operand} :
    VPure T w0 P ρ s (do eqGuard op t o1 o2 (.agg vx.toArray) (.agg vy.toArray); binOp op t (.agg vx.toArray) (.agg vy.toArray)) (aEqAgg P s op t x y) := by
  unfold aEqAgg
  split
  · rename_i fs hu
    split
    · rename_i hc
      obtain ⟨h1, h2⟩ := hc
      split
      · rename_i ps hps
        have hl := fun w => eqFields_ok (P := P) hx hy 9998 w hps
        have heq : ∀ w, (Op.equal t (.agg vx.toArray) (.agg vy.toArray)).run P w = .ok (ps.all fun p => decide (p.1.ev ρ.m = p.2.ev ρ.m)) w := by
          intro w
          unfold Op.equal Op.maxDepth Op.equalIn
          simp only [Sem.run_bind, run_underlying hu, Result.andThen_ok, run_program, h1, Bool.false_eq_true, if_false]
          rw [← Array.forIn_toList, hl w]
          simp only [Result.andThen_ok]
          generalize (ps.all fun p => decide (p.1.ev ρ.m = p.2.ev ρ.m)) = b
          cases b <;> rfl
        have hg : ∀ op w, (eqGuard op t o1 o2 (.agg vx.toArray) (.agg vy.toArray)).run P w = .ok () w := by
          intro op w
          unfold eqGuard
          cases op <;> simp [h2]
        split
        · exact mkE_ok H (fun w => by simp [hg, binOp, heq])
        · exact mkE_ok H (fun w => by simp [hg, binOp, heq])
        · exact VPure.fail
      · exact VPure.fail
    · exact VPure.fail
  · rename_i n e hu
    split
    · rename_i k0 i hr hk hi
      split
      · rename_i hc
        obtain ⟨h1, h2⟩ := hc
        split
        · rename_i ps hps
          have heq : ∀ w, (Op.equal t (.agg vx.toArray) (.agg vy.toArray)).run P w = .ok (ps.all fun p => decide (p.1.ev ρ.m = p.2.ev ρ.m)) w := by
            intro w
            unfold Op.equal Op.maxDepth
            rw [run_equalIn_array w 9999 _ _ hu hi, h1]
            exact eqItems_ok hx hy hr hk 9998 w hps
          have hg : ∀ op w, (eqGuard op t o1 o2 (.agg vx.toArray) (.agg vy.toArray)).run P w = .ok () w := by
            intro op w
            unfold eqGuard
            cases op <;> simp [h2]
          split
          · exact mkE_ok H (fun w => by simp [hg, binOp, heq])
          · exact mkE_ok H (fun w => by simp [hg, binOp, heq])
          · exact VPure.fail
        · exact VPure.fail
      · exact VPure.fail
    · exact VPure.fail
  · exact VPure.fail
def bitsV (op : BinOp) (k : IntKind) (x y : Int) : Option Int := match op with
  | .and => some (k.wrap (BitVec.ofInt k.bits x &&& BitVec.ofInt k.bits y).toNat)
  | .or => some (k.wrap (BitVec.ofInt k.bits x ||| BitVec.ofInt k.bits y).toNat)
  | .xor => some (k.wrap (BitVec.ofInt k.bits x ^^^ BitVec.ofInt k.bits y).toNat)
  | .andNot => some (k.wrap (BitVec.ofInt k.bits x &&& ~~~(BitVec.ofInt k.bits y)).toNat)
  | _ => none
def aBits (s : St) (op : BinOp) (k : IntKind) (a b : IA) : Tree (TV × St) := match isLit a, isLit b with
  | some x, some y => match bitsV op k x y with
    | some n => .leaf (.v (.c (.il k n)), s)
    | none => .fail "bin: op"
  | none, some y => match op, rangeOf s a with
    | .and, some (lo, hi) => if 0 ≤ lo ∧ hi ≤ k.max ∧ y = ((2 ^ (y.toNat.log2 + 1) - 1 : Nat) : Int) ∧ 0 < y ∧ y ≤ k.max then mkI s k (.rem a (.l (y + 1))) 0 y
      else if y = ((2 ^ (y.toNat.log2 + 1) - 1 : Nat) : Int) ∧ 0 < y ∧ y ≤ 15 then .letI (.rem a (.l (y + 1))) (.letI (.add (.v s.rng.n) (.l (y + 1))) (mkSp ((s.addI (-y) y).addI 1 (y + (y + 1))) k (.rem (.v (s.rng.n + 1)) (.l (y + 1))) 0 y)) else .fail "bin: mask"
    | _, _ => .fail "bin: op"
  | _, _ => .fail "bin: op"
theorem and_mask {k : IntKind} {x y : Int} (h0 : 0 ≤ x) (h1 : x ≤ k.max) (hy : y = ((2 ^ (y.toNat.log2 + 1) - 1 : Nat) : Int)) (hy0 : 0 < y) (hy1 : y ≤ k.max) : k.wrap (BitVec.ofInt k.bits x &&& BitVec.ofInt k.bits y).toNat = x.tmod (y + 1) := by
  have hmax : k.max < 2 ^ k.bits := by cases k <;> decide
  have hmin : k.min ≤ 0 := by cases k <;> decide
  obtain ⟨n, rfl⟩ := Int.eq_ofNat_of_zero_le h0
  obtain ⟨m, rfl⟩ := Int.eq_ofNat_of_zero_le (Int.le_of_lt hy0)
  have e1 : (BitVec.ofInt k.bits (n : Int)).toNat = n := by
    rw [BitVec.toNat_ofInt]
    have : (n : Int) % (2 ^ k.bits : Nat) = n := Int.emod_eq_of_lt h0 (by simp only [Int.natCast_pow]; exact_mod_cast (show (n : Int) < 2 ^ k.bits by omega))
    rw [this]; rfl
  have e2 : (BitVec.ofInt k.bits (m : Int)).toNat = m := by
    rw [BitVec.toNat_ofInt]
    have : (m : Int) % (2 ^ k.bits : Nat) = m := Int.emod_eq_of_lt (by omega) (by simp only [Int.natCast_pow]; exact_mod_cast (show (m : Int) < 2 ^ k.bits by omega))
    rw [this]; rfl
  have hm : m = 2 ^ (m.log2 + 1) - 1 := by
    rw [Int.toNat_natCast] at hy
    exact Int.ofNat.inj hy
  rw [BitVec.toNat_and, e1, e2]
  have e3 : n &&& m = n % (m + 1) := by
    have h2 : 0 < 2 ^ (m.log2 + 1) := Nat.pow_pos (by decide)
    have h3 : m + 1 = 2 ^ (m.log2 + 1) := by omega
    rw [h3]
    conv => lhs; rw [hm]
    exact Nat.and_two_pow_sub_one_eq_mod n _
  rw [e3, Int.tmod_eq_emod_of_nonneg h0]
  have e4 : ((n : Int) % ((m : Int) + 1)) = ((n % (m + 1) : Nat) : Int) := by simp
  rw [e4]
  refine wrap_in (by omega) ?_
  have : n % (m + 1) ≤ m := Nat.lt_succ_iff.1 (Nat.mod_lt _ (by omega))
  omega
theorem and_mask_any {k : IntKind} {x y : Int} (hy : y = ((2 ^ (y.toNat.log2 + 1) - 1 : Nat) : Int)) (hy0 : 0 < y) (hy1 : y ≤ 15) : k.wrap (BitVec.ofInt k.bits x &&& BitVec.ofInt k.bits y).toNat = (x.tmod (y + 1) + (y + 1)).tmod (y + 1) := by
  have hmax : 15 ≤ k.max := by cases k <;> decide
  have hmax2 : k.max < 2 ^ k.bits := by cases k <;> decide
  have hmin : k.min ≤ 0 := by cases k <;> decide
  have h8 : 8 ≤ k.bits := by cases k <;> decide
  obtain ⟨m, rfl⟩ := Int.eq_ofNat_of_zero_le (Int.le_of_lt hy0)
  have e2 : (BitVec.ofInt k.bits (m : Int)).toNat = m := by
    rw [BitVec.toNat_ofInt]
    have : (m : Int) % (2 ^ k.bits : Nat) = m := Int.emod_eq_of_lt (by omega) (by simp only [Int.natCast_pow]; exact_mod_cast (show (m : Int) < 2 ^ k.bits by omega))
    rw [this]; rfl
  have hm : m = 2 ^ (m.log2 + 1) - 1 := by
    rw [Int.toNat_natCast] at hy
    exact Int.ofNat.inj hy
  have h2 : 0 < 2 ^ (m.log2 + 1) := Nat.pow_pos (by decide)
  have h3 : m + 1 = 2 ^ (m.log2 + 1) := by omega
  have hl : m.log2 + 1 ≤ k.bits := by
    have : 2 ^ (m.log2 + 1) < 2 ^ 5 := by rw [← h3]; omega
    have := (Nat.pow_lt_pow_iff_right (by decide : 1 < 2)).1 this
    omega
  have hd : ((m + 1 : Nat) : Int) ∣ ((2 ^ k.bits : Nat) : Int) := by
    rw [h3]
    exact Int.natCast_dvd_natCast.2 (Nat.pow_dvd_pow 2 hl)
  have e3 : ∀ n : Nat, n &&& m = n % (m + 1) := by
    intro n
    rw [h3]
    conv => lhs; rw [hm]
    exact Nat.and_two_pow_sub_one_eq_mod n _
  rw [BitVec.toNat_and, e2, e3, BitVec.toNat_ofInt]
  have hp : 0 ≤ x % ((2 ^ k.bits : Nat) : Int) := Int.emod_nonneg _ (by have := Nat.pow_pos (n := k.bits) (by decide : 0 < 2); omega)
  have e4 : (((x % ((2 ^ k.bits : Nat) : Int)).toNat % (m + 1) : Nat) : Int) = x % ((m + 1 : Nat) : Int) := by
    rw [Int.natCast_emod, Int.toNat_of_nonneg hp, Int.emod_emod_of_dvd _ hd]
  rw [e4]
  have r0 := Int.emod_nonneg x (show ((m + 1 : Nat) : Int) ≠ 0 by omega)
  have r1 := Int.emod_lt_of_pos x (show 0 < ((m + 1 : Nat) : Int) by omega)
  rw [wrap_in (by omega) (by omega)]
  have t1 := Int.tmod_lt_of_pos (-x) (show 0 < ((m : Int) + 1) by omega)
  have t2 : (-x).tmod ((m : Int) + 1) = -(x.tmod ((m : Int) + 1)) := Int.neg_tmod ..
  have t3 : 0 ≤ x.tmod ((m : Int) + 1) + ((m : Int) + 1) := by omega
  rw [Int.tmod_eq_emod_of_nonneg t3, Int.tmod_def]
  have : x - ((m : Int) + 1) * x.tdiv ((m : Int) + 1) + ((m : Int) + 1) = x + ((m : Int) + 1) * (1 - x.tdiv ((m : Int) + 1)) := by rw [Int.mul_sub, Int.mul_one]; omega
  rw [this, Int.add_mul_emod_self_left]
  rfl
theorem aBits_ok {ρ : Env} {s : St} (H : MRel' ρ s) {op : BinOp} {k : IntKind} {a b : IA} {t : TypeId} : VPure T w0 P ρ s (binOp op t (.int k (a.ev ρ.m)) (.int k (b.ev ρ.m))) (aBits s op k a b) := by
  unfold aBits
  split
  · rename_i x y hx hy
    rw [isLit_ev hx, isLit_ev hy]
    split
    · rename_i n hn
      refine VPure.leaf (v := .int k n) rfl (fun w => ?_)
      cases op <;> simp only [bitsV, reduceCtorEq, Option.some.injEq] at hn <;> subst hn <;> simp [binOp, Op.intBits]
    · exact VPure.fail
  · rename_i y _ hy
    split
    · rename_i lo hi hr
      split
      · rename_i hc
        obtain ⟨c1, c2, c3, c4, c5⟩ := hc
        have hb := rangeOf_ok H hr
        rw [isLit_ev hy]
        have hev : (ID.rem a (.l (y + 1))).ev ρ.m = (a.ev ρ.m).tmod (y + 1) := rfl
        have h0 : 0 ≤ a.ev ρ.m := by omega
        have e := and_mask (k := k) (x := a.ev ρ.m) h0 (by omega) c3 c4 c5
        have h1 := Int.emod_nonneg (a.ev ρ.m) (show y + 1 ≠ 0 by omega)
        have h2 := Int.emod_lt_of_pos (a.ev ρ.m) (show 0 < y + 1 by omega)
        have h3 := Int.tmod_eq_emod_of_nonneg (b := y + 1) h0
        refine mkI_ok H (by rw [hev]; omega) (by rw [hev]; omega) (fun _ w => ?_)
        rw [hev, ← e]
        simp [binOp, Op.intBits]
      · split
        · rename_i hc
          obtain ⟨c3, c4, c5⟩ := hc
          rw [isLit_ev hy]
          intro K hK
          have hK := hK _ rfl _ rfl
          have hev : (ID.rem a (.l (y + 1))).ev ρ.m = (a.ev ρ.m).tmod (y + 1) := rfl
          rw [hev] at hK
          have t1 := Int.tmod_lt_of_pos (a.ev ρ.m) (show 0 < y + 1 by omega)
          have t2 := Int.tmod_lt_of_pos (-(a.ev ρ.m)) (show 0 < y + 1 by omega)
          have t3 : (-(a.ev ρ.m)).tmod (y + 1) = -((a.ev ρ.m).tmod (y + 1)) := Int.neg_tmod ..
          generalize hz : (a.ev ρ.m).tmod (y + 1) = z at hK t1 t3
          have H1 := H.pushI (n := z) (lo := -y) (hi := y) (by omega) (by omega)
          have g1 : (ρ.m.pushI z).I.getD s.rng.n 0 = z := by
            unfold M.pushI
            rw [← H.nI]
            simp [List.getD_eq_getElem?_getD]
          have hev2 : (ID.add (.v s.rng.n) (.l (y + 1))).ev (ρ.m.pushI z) = z + (y + 1) := by
            show (ρ.m.pushI z).I.getD s.rng.n 0 + (y + 1) = _
            rw [g1]
          rw [hev2] at hK
          have H2 := H1.pushI (n := z + (y + 1)) (lo := 1) (hi := y + (y + 1)) (by omega) (by omega)
          have g2 : ((ρ.m.pushI z).pushI (z + (y + 1))).I.getD (s.rng.n + 1) 0 = z + (y + 1) := by
            unfold M.pushI
            rw [← H.nI]
            simp [List.getD_eq_getElem?_getD]
          have hev3 : (ID.rem (.v (s.rng.n + 1)) (.l (y + 1))).ev ((ρ.m.pushI z).pushI (z + (y + 1))) = (z + (y + 1)).tmod (y + 1) := by
            show (((ρ.m.pushI z).pushI (z + (y + 1))).I.getD (s.rng.n + 1) 0).tmod (y + 1) = _
            rw [g2]
          have b0 := Int.tmod_nonneg (y + 1) (show 0 ≤ z + (y + 1) by omega)
          have b1 := Int.tmod_lt_of_pos (z + (y + 1)) (show 0 < y + 1 by omega)
          have e := and_mask_any (k := k) (x := a.ev ρ.m) c3 c4 c5
          rw [hz] at e
          obtain ⟨ρ', tv, s', v, k1, k2, k3, k4, k5, k6, k7, k8⟩ := mkSp_ok (P := P) (T := T) (w0 := w0) H2 (k := k) (d := .rem (.v (s.rng.n + 1)) (.l (y + 1))) (lo := 0) (hi := y) (sem := binOp .and t (.int k (a.ev ρ.m)) (.int k y))
            (by show 0 ≤ (ID.rem (.v (s.rng.n + 1)) (.l (y + 1))).ev ((ρ.m.pushI z).pushI (z + (y + 1))); rw [hev3]; exact b0)
            (by show (ID.rem (.v (s.rng.n + 1)) (.l (y + 1))).ev ((ρ.m.pushI z).pushI (z + (y + 1))) ≤ y; rw [hev3]; omega)
            (fun w => by
              show _ = Result.ok (Value.int k ((ID.rem (.v (s.rng.n + 1)) (.l (y + 1))).ev ((ρ.m.pushI z).pushI (z + (y + 1))))) w
              rw [hev3, ← e]
              simp [binOp, Op.intBits]) K hK
          exact ⟨ρ', tv, s', v, k1, ((Env.le_withM (M.le_pushI _ _)).trans (Env.le_withM (M.le_pushI _ _))).trans k2, k3, k4, k5, fun w1 h => k6 w1 ((h.pushI (by omega) (by omega)).pushI (by omega) (by omega)), k7, k8⟩
        · exact VPure.fail
    · exact VPure.fail
  · exact VPure.fail
def shiftV (op : BinOp) (k : IntKind) (x y : Int) : Option Int := if y < 0 then none else match op with
  | .shl => some (k.wrap (x * 2 ^ (min y.toNat k.bits)))
  | .shr => some (x.fdiv (2 ^ (min y.toNat k.bits)))
  | _ => none
def aShift (s : St) (op : BinOp) (k : IntKind) (a b : IA) : Tree (TV × St) := match isLit a, isLit b with
  | some x, some y => match shiftV op k x y with
    | some n => .leaf (.v (.c (.il k n)), s)
    | none => .fail "shift"
  | none, some y => match op, rangeOf s a with
    | .shr, some (lo, hi) => if 0 ≤ lo ∧ 0 ≤ y ∧ y ≤ 64 then mkI s k (.quo a (.l (2 ^ (min y.toNat k.bits)))) (lo / 2 ^ (min y.toNat k.bits)) (hi / 2 ^ (min y.toNat k.bits)) else .fail "shift: below 0"
    | _, _ => .fail "shift"
  | _, _ => .fail "shift"
theorem aShift_ok {ρ : Env} {s : St} (H : MRel' ρ s) {op : BinOp} {k k' : IntKind} {a b : IA} {t : TypeId} : VPure T w0 P ρ s (binOp op t (.int k (a.ev ρ.m)) (.int k' (b.ev ρ.m))) (aShift s op k a b) := by
  unfold aShift
  split
  · rename_i x y hx hy
    rw [isLit_ev hx, isLit_ev hy]
    split
    · rename_i n hn
      refine VPure.leaf (v := .int k n) rfl (fun w => ?_)
      unfold shiftV at hn
      split at hn
      · cases hn
      · rename_i h0
        cases op <;> simp only [reduceCtorEq, Option.some.injEq] at hn <;> subst hn <;> simp [binOp, Op.shift, h0]
    · exact VPure.fail
  · rename_i y _ hy
    split
    · rename_i lo hi hr
      split
      · rename_i hc
        obtain ⟨c1, c2, c3⟩ := hc
        have hb := rangeOf_ok H hr
        rw [isLit_ev hy]
        have hp : (0 : Int) < 2 ^ (min y.toNat k.bits) := Int.pow_pos (by decide)
        have h0 : 0 ≤ a.ev ρ.m := by omega
        have hev : (ID.quo a (.l (2 ^ (min y.toNat k.bits)))).ev ρ.m = (a.ev ρ.m) / 2 ^ (min y.toNat k.bits) := Int.tdiv_eq_ediv_of_nonneg h0
        refine mkI_ok H (by rw [hev]; exact Int.ediv_le_ediv hp hb.1) (by rw [hev]; exact Int.ediv_le_ediv hp hb.2) (fun _ w => ?_)
        have e : (a.ev ρ.m).fdiv (2 ^ (min y.toNat k.bits)) = (a.ev ρ.m) / 2 ^ (min y.toNat k.bits) := Int.fdiv_eq_ediv_of_nonneg _ (Int.le_of_lt hp)
        rw [hev, ← e]
        have hny : ¬ y < 0 := by omega
        simp [binOp, Op.shift, hny]
      · exact VPure.fail
    · exact VPure.fail
  · exact VPure.fail
def isShift : BinOp → Bool
  | .shl | .shr => true
  | _ => false
def boolT (P : Program) (t : TypeId) : Bool := match P.underlying t with
  | some .bool => true
  | _ => false
def sameB (s : St) (w : Bool) (y : CV) : Tree (TV × St) := match y with
  | .bl b => .leaf (.v (.c (.bl (b == w))), s)
  | .bv j => match w with
    | true => .leaf (.v (.c (.bv j)), s)
    | false => mkB s (.not j)
  | _ => .fail "bool"
def eqB (s : St) (w : Bool) (x y : CV) : Tree (TV × St) := match x with
  | .bl a => sameB s (a == w) y
  | .bv i => .ifB i (sameB s w y) (sameB s (!w) y)
  | _ => .fail "bin: no numbers"
def aBools (P : Program) (s : St) (op : BinOp) (t : TypeId) (x y : CV) : Tree (TV × St) := match boolT P t with
  | true => match op with
    | .eql => eqB s true x y
    | .neq => eqB s false x y
    | _ => .fail "bin: no numbers"
  | false => .fail "bin: no numbers"
def aBin (P : Program) (s : St) (op : BinOp) (t : TypeId) : AV → AV → Tree (TV × St)
  | .agg x, .agg y => aEqAgg P s op t x y
  | .c x, .c y => match numOf x, numOf y with
    | some (k, a), some (k', b) => if isShift op = true then aShift s op k a b else if k = k' then (match op with
        | .add | .sub | .mul | .quo | .rem => aArith s op k a b
        | .eql | .neq | .lss | .leq | .gtr | .geq => aCmp s op a b
        | _ => aBits s op k a b) else .fail "bin: kinds"
    | none, none => match strOf x, strOf y with
      | some a, some b => aStr s op a b
      | _, _ => aBools P s op t x y
    | _, _ => .fail "bin: one number"
  | _, _ => .fail "bin"
theorem ite_eq {α : Type} {c : Prop} [Decidable c] {x y z : α} (h1 : x = z) (h2 : y = z) : (if c then x else y) = z := by split <;> assumption
theorem eqGuard_skip {op : BinOp} {t : TypeId} {o1 o2 : Operand} {a b : Value} (w : World) (ha : a ≠ .nilIface) (hb : a.oneCell' = true) : (eqGuard op t o1 o2 a b).run P w = .ok () w := by
  unfold eqGuard
  rw [Sem.run_ite]
  refine ite_eq ?_ ?_
  · rfl
  · split
    · exact absurd rfl ha
    · simp [Value.oneCell'] at hb
    · rfl
theorem VPure.bindUnit {ρ : Env} {s : St} {u : Sem Unit} {sem : Sem Value} {t : Tree (TV × St)} (hu : ∀ w, u.run P w = .ok () w) (h : VPure T w0 P ρ s sem t) : VPure T w0 P ρ s (do u; sem) t :=
  h.congr (fun w => by simp [hu])
theorem getB0 {ρ : Env} {i : Nat} {b : Bool} (h : ρ.m.B[i]? = some b) : ρ.m.b i = b := by
  unfold M.b; rw [List.getD_eq_getElem?_getD, h]; rfl
theorem sameB_ok {ρ : Env} {s : St} (H : MRel' ρ s) {w : Bool} {y : CV} {v : Value} (hy : CRel ρ y v) {sem : Sem Value} (hr : ∀ b, v = .bool b → ∀ W, sem.run P W = .ok (.bool (b == w)) W) : VPure T w0 P ρ s sem (sameB s w y) := by
  unfold sameB
  split
  · rename_i b
    have hv : v = .bool b := hy
    exact VPure.leaf (v := .bool (b == w)) rfl (hr b hv)
  · rename_i j
    obtain ⟨b, hb, hv⟩ := hy
    split
    · exact VPure.leaf (v := .bool b) ⟨b, hb, rfl⟩ (fun W => by rw [hr b hv W]; cases b <;> rfl)
    · exact mkB_ok H (fun W => by rw [hr b hv W]; simp only [BD.ev, getB0 hb]; cases b <;> rfl)
  · exact VPure.fail
theorem eqB_ok {ρ : Env} {s : St} (H : MRel' ρ s) {w : Bool} {x y : CV} {u v : Value} (hx : CRel ρ x u) (hy : CRel ρ y v) {sem : Sem Value} (hr : ∀ a b, u = .bool a → v = .bool b → ∀ W, sem.run P W = .ok (.bool ((a == b) == w)) W) : VPure T w0 P ρ s sem (eqB s w x y) := by
  unfold eqB
  split
  · rename_i a
    have hu : u = .bool a := hx
    exact sameB_ok H hy (fun b hb W => by rw [hr a b hu hb W]; cases a <;> cases b <;> cases w <;> rfl)
  · rename_i i
    obtain ⟨a, ha, hu⟩ := hx
    have hb0 := getB0 ha
    intro K hK
    cases a with
    | true => exact sameB_ok H hy (fun b hb W => by rw [hr true b hu hb W]; cases b <;> cases w <;> rfl) K (hK.1 hb0)
    | false => exact sameB_ok H hy (fun b hb W => by rw [hr false b hu hb W]; cases b <;> cases w <;> rfl) K (hK.2 hb0)
  · exact VPure.fail
theorem run_eqBool {t : TypeId} (h : P.underlying t = some .bool) (a b : Bool) (w : World) : (Op.equal t (.bool a) (.bool b)).run P w = .ok (a == b) w := run_equalIn_bool' w 9999 t a b h
theorem aBools_ok {ρ : Env} {s : St} (H : MRel' ρ s) {op : BinOp} {t : TypeId} {x y : CV} {u v : Value} (hx : CRel ρ x u) (hy : CRel ρ y v) {o1 o2 : Operand} :
    VPure T w0 P ρ s (do eqGuard op t o1 o2 u v; binOp op t u v) (aBools P s op t x y) := by
  unfold aBools
  split
  · rename_i ht
    have ht : P.underlying t = some .bool := by
      unfold boolT at ht
      split at ht
      · assumption
      · cases ht
    split
    · refine eqB_ok H hx hy (fun a b hu hv W => ?_)
      subst hu; subst hv
      have h1 := eqGuard_skip (P := P) (op := .eql) (t := t) (o1 := o1) (o2 := o2) (a := .bool a) (b := .bool b) W (by simp) rfl
      simp only [Sem.run_bind, h1, Result.andThen_ok, binOp, run_eqBool ht, Sem.run_pure]
      cases a <;> cases b <;> rfl
    · refine eqB_ok H hx hy (fun a b hu hv W => ?_)
      subst hu; subst hv
      have h1 := eqGuard_skip (P := P) (op := .neq) (t := t) (o1 := o1) (o2 := o2) (a := .bool a) (b := .bool b) W (by simp) rfl
      simp only [Sem.run_bind, h1, Result.andThen_ok, binOp, run_eqBool ht, Sem.run_pure]
      cases a <;> cases b <;> rfl
    · exact VPure.fail
  · exact VPure.fail
theorem aBin_ok {ρ : Env} {s : St} (H : MRel' ρ s) {op : BinOp} {t : TypeId} {x y : AV} {u v : Value} (hx : ARel ρ x u) (hy : ARel ρ y v) {o1 o2 : Operand} :
    VPure T w0 P ρ s (do eqGuard op t o1 o2 u v; binOp op t u v) (aBin P s op t x y) := by
  unfold aBin
  split
  · rename_i x y
    obtain ⟨vx, rfl, h1⟩ := hx
    obtain ⟨vy, rfl, h2⟩ := hy
    exact aEqAgg_ok H h1 h2
  · rename_i x y
    split
    · rename_i k a k' b h1 h2
      split
      · have e1 := numOf_rel hx h1
        have e2 := numOf_rel hy h2
        subst e1; subst e2
        exact VPure.bindUnit (fun w => eqGuard_skip w (by simp) rfl) (aShift_ok H)
      split
      · rename_i hk
        subst hk
        have e1 := numOf_rel hx h1
        have e2 := numOf_rel hy h2
        subst e1; subst e2
        split
        · exact VPure.bindUnit (fun w => eqGuard_skip w (by simp) rfl) (aArith_ok H (fun _ => rfl))
        · exact VPure.bindUnit (fun w => eqGuard_skip w (by simp) rfl) (aArith_ok H (fun _ => rfl))
        · exact VPure.bindUnit (fun w => eqGuard_skip w (by simp) rfl) (aArith_ok H (fun _ => rfl))
        · exact VPure.bindUnit (fun w => eqGuard_skip w (by simp) rfl) (aArith_ok H (fun _ => rfl))
        · exact VPure.bindUnit (fun w => eqGuard_skip w (by simp) rfl) (aArith_ok H (fun _ => rfl))
        · exact VPure.bindUnit (fun w => eqGuard_skip w (by simp) rfl) (aCmp_ok H (by simp [binOp]))
        · exact VPure.bindUnit (fun w => eqGuard_skip w (by simp) rfl) (aCmp_ok H (by simp [binOp]))
        · exact VPure.bindUnit (fun w => eqGuard_skip w (by simp) rfl) (aCmp_ok H (by simp [binOp]))
        · exact VPure.bindUnit (fun w => eqGuard_skip w (by simp) rfl) (aCmp_ok H (by simp [binOp]))
        · exact VPure.bindUnit (fun w => eqGuard_skip w (by simp) rfl) (aCmp_ok H (by simp [binOp]))
        · exact VPure.bindUnit (fun w => eqGuard_skip w (by simp) rfl) (aCmp_ok H (by simp [binOp]))
        · exact VPure.bindUnit (fun w => eqGuard_skip w (by simp) rfl) (aBits_ok H)
      · exact VPure.fail
    · split
      · rename_i a b h1 h2
        have e1 := strOf_rel hx h1
        have e2 := strOf_rel hy h2
        subst e1; subst e2
        exact VPure.bindUnit (fun w => eqGuard_skip w (by simp) rfl) (aStr_ok H (by cases op <;> rfl))
      · exact aBools_ok H hx hy
    · exact VPure.fail
  · exact VPure.fail
def aUn (s : St) (op : UnOp) : CV → Tree (TV × St)
  | .bl b => match op with
    | .not => bLit (!b) s
    | _ => .fail "un"
  | .bv i => match op with
    | .not => mkB s (.not i)
    | _ => .fail "un"
  | x => match numOf x, op with
    | some (k, a), .neg => aArith s .sub k (.l 0) a
    | _, _ => .fail "un"
theorem getB {ρ : Env} {i : Nat} {b : Bool} (h : ρ.m.B[i]? = some b) : ρ.m.b i = b := by
  unfold M.b; rw [List.getD_eq_getElem?_getD, h]; rfl
theorem aUn_ok {ρ : Env} {s : St} (H : MRel' ρ s) {op : UnOp} {x : CV} {u : Value} (hx : CRel ρ x u) : VPure T w0 P ρ s (Op.unary op u) (aUn s op x) := by
  unfold aUn
  split
  · rename_i b
    cases (hx : u = _)
    split
    · exact bLit_ok (fun w => by simp [Op.unary])
    · exact VPure.fail
  · rename_i i
    obtain ⟨b, hb, rfl⟩ := hx
    split
    · exact mkB_ok H (fun w => by simp [Op.unary, BD.ev, getB hb])
    · exact VPure.fail
  · split
    · rename_i k a h1
      have e1 := numOf_rel hx h1
      subst e1
      exact aArith_ok H (a := .l 0) (b := a) (t1 := 0) (fun _ => by simp [Op.unary, binOp, IA.ev])
    · exact VPure.fail
def f2f (src : FloatKind) (bits : Nat) (dst : FloatKind) : Option Nat := if src = dst then some bits else match src.decode bits with
  | .number s m e => if (dst.decode (dst.encode (.number s m e))).isInfinity = true then none else some (dst.encode (.number s m e))
  | _ => none
theorem f2f_ok {src dst : FloatKind} {b r : Nat} (h : f2f src b dst = some r) (w : World) : (Conv.floatToFloat src b dst).run P w = .ok (.float dst r) w := by
  unfold f2f at h
  unfold Conv.floatToFloat
  split at h
  · rename_i e
    cases h
    subst e
    rw [if_pos rfl]; rfl
  · rename_i e
    rw [if_neg e]
    split at h
    · rename_i s m e' hd
      rw [hd]
      split at h
      · cases h
      · rename_i hi
        cases h
        show (if (dst.decode (dst.encode (.number s m e'))).isInfinity = true then _ else _ : Sem Value).run P w = _
        rw [if_neg hi]; rfl
    · cases h
def aConv (P : Program) (s : St) (src dst : TypeId) (x : CV) : Tree (TV × St) :=
  match P.underlying src, P.underlying dst, x with
  | some _, some (.float k), .fl k' b => match f2f k' b k with
    | some r => .leaf (.v (.c (.fl k r)), s)
    | none => .fail "conv"
  | some _, some (.float k), .il _ n => .leaf (.v (.c (.fl k (k.nearest n))), s)
  | some _, some (.int k), .fl k' b => match (k'.decode b).toInt .zero with
    | some n => if k.min ≤ n ∧ n ≤ k.max then .leaf (.v (.c (.il k n)), s) else .fail "conv: far"
    | none => .fail "conv: no number"
  | some _, some (.int k), .il _ n => .leaf (.v (.c (.il k (k.wrap n))), s)
  | some _, some (.int k), .iv _ i => match s.rng.get i with
    | some (lo, hi) => if k.min ≤ lo ∧ hi ≤ k.max then .leaf (.v (.c (.iv k i)), s) else mkI s k (.wrap k (.v i)) k.min k.max
    | none => .fail "conv"
  | _, _, _ => .fail "conv"
theorem wrap_bounds (k : IntKind) (n : Int) : k.min ≤ k.wrap n ∧ k.wrap n ≤ k.max := by
  cases k <;> simp only [IntKind.min, IntKind.max, IntKind.wrap, IntKind.bits, IntKind.signed] <;> simp <;> omega
theorem aConv_ok {ρ : Env} {s : St} (H : MRel' ρ s) {src dst : TypeId} {x : CV} {u : Value} (hx : CRel ρ x u) : VPure T w0 P ρ s (convert src dst u) (aConv P s src dst x) := by
  unfold aConv
  split
  · rename_i d k k' b h1 h2
    cases (hx : u = _)
    split
    · rename_i r hr
      exact VPure.leaf (v := .float k r) rfl (fun w => by simp [convert, run_underlying h1, run_underlying h2]; exact f2f_ok hr w)
    · exact VPure.fail
  · rename_i d k k' n h1 h2
    cases (hx : u = _)
    exact VPure.leaf (v := .float k (k.nearest n)) rfl (fun w => by simp [convert, run_underlying h1, run_underlying h2, Conv.intToFloat])
  · rename_i d k k' b h1 h2
    cases (hx : u = _)
    split
    · rename_i n hn
      split
      · rename_i hk
        exact VPure.leaf (v := .int k n) rfl (fun w => by simp [convert, run_underlying h1, run_underlying h2, Conv.floatToInt, hn, hk])
      · exact VPure.fail
    · exact VPure.fail
  · rename_i d k k' n h1 h2
    cases (hx : u = _)
    exact VPure.leaf (v := .int k (k.wrap n)) rfl (fun w => by simp [convert, run_underlying h1, run_underlying h2, Conv.intToInt])
  · rename_i d k k' i h1 h2
    obtain ⟨n, hn, rfl⟩ := hx
    have hc : ∀ w, (convert src dst (.int k' n)).run P w = .ok (.int k (k.wrap n)) w := fun w => by simp [convert, run_underlying h1, run_underlying h2, Conv.intToInt]
    split
    · rename_i lo hi hr
      have hb := H.rng i lo hi n hr hn
      split
      · rename_i hk
        refine VPure.leaf (v := .int k n) ⟨n, hn, rfl⟩ (fun w => ?_)
        rw [hc, wrap_in (by omega) (by omega)]
      · have hev : (ID.wrap k (.v i)).ev ρ.m = k.wrap n := by
          show k.wrap (ρ.m.I.getD i 0) = _
          rw [List.getD_eq_getElem?_getD, hn]; rfl
        have hw := wrap_bounds k n
        refine mkI_ok H (by rw [hev]; exact hw.1) (by rw [hev]; exact hw.2) (fun _ w => ?_)
        rw [hev]; exact hc w
    · exact VPure.fail
  · exact VPure.fail
def aPick (s : St) (c : CV) (a b : TV) : Tree (TV × St) :=
  match c with
  | .bl true => .leaf (a, s)
  | .bl false => .leaf (b, s)
  | .bv i => .ifB i (.leaf (a, s)) (.leaf (b, s))
  | _ => .fail "pick"
theorem aPick_ok {ρ : Env} {s : St} {c : CV} {a b : TV} {vc va vb : Value} (hc : CRel ρ c vc) (ha : TRel ρ a va) (hb : TRel ρ b vb) : VPure T w0 P ρ s (do pure (if ← asBool vc then va else vb)) (aPick s c a b) := by
  unfold aPick
  split
  · cases (hc : vc = _); exact VPure.leaf ha (fun w => by simp [asBool])
  · cases (hc : vc = _); exact VPure.leaf hb (fun w => by simp [asBool])
  · rename_i i
    obtain ⟨x, hx, rfl⟩ := hc
    intro K hK
    have hxb := getB hx
    cases x with
    | true => exact ⟨ρ, a, s, va, hK.1 hxb, .refl _, rfl, rfl, rfl, fun _ h => h, ha, fun w => by simp [asBool]⟩
    | false => exact ⟨ρ, b, s, vb, hK.2 hxb, .refl _, rfl, rfl, rfl, fun _ h => h, hb, fun w => by simp [asBool]⟩
  · exact VPure.fail
def aExtract (i : Nat) : TV → Option AV
  | .tup l => l[i]?
  | _ => none
theorem aExtract_ok {ρ : Env} {i : Nat} {x : TV} {v : Value} (hx : TRel ρ x v) {y : AV} (e : aExtract i x = some y) : ∃ u, (∀ w, (Instr.extract v i).run P w = .ok u w) ∧ ARel ρ y u := by
  cases x with
  | v a => cases e
  | ifc t a => cases e
  | tup l =>
    obtain ⟨vs, rfl, h⟩ := hx
    obtain ⟨u, hu, hr⟩ := h.get e
    exact ⟨u, fun w => by simp [Instr.extract, hu], hr⟩
def aLen (P : Program) (t : TypeId) (x : AV) : Option CV :=
  match P.underlying t, x with
  | some (.slice _), .c (.sc _ _ n _) => some (.il .i64 n)
  | some (.slice _), .c .nsl => some (.il .i64 0)
  | some (.slice _), .c (.sr _ _ n _ _) => some (.il .i64 n)
  | some (.slice _), .c (.su _ i) => some (.iv .i64 i)
  | some (.slice _), .c (.sg _ _ n _) => some (.il .i64 n)
  | some (.array n _), _ => some (.il .i64 n)
  | some .string, .c (.sl s) => some (.il .i64 s.length)
  | _, _ => none
theorem aLen_ok {ρ : Env} {t : TypeId} {ts : Array TypeId} {ty : TypeId} {x : AV} {v : Value} (ht : ts[0]? = some t) (hx : ARel ρ x v) {n : CV} (e : aLen P t x = some n) : ∃ u, CRel ρ n u ∧ ∀ w, (Builtin.len_ ts ty #[v]).run P w = .ok u w := by
  unfold aLen at e
  split at e
  · rename_i el b off m c hu
    cases e
    obtain ⟨g, o, _, rfl⟩ := hx
    exact ⟨_, rfl, fun w => by simp [Builtin.len_, ht, run_underlying hu, goInt]⟩
  · rename_i el hu
    cases e
    cases (hx : v = _)
    exact ⟨_, rfl, fun w => by simp [Builtin.len_, ht, run_underlying hu, goInt]⟩
  · rename_i el b off m ic dc hu
    cases e
    obtain ⟨g, o, k, _, _, _, rfl⟩ := hx
    exact ⟨_, rfl, fun w => by simp [Builtin.len_, ht, run_underlying hu, goInt]⟩
  · rename_i el b i hu
    cases e
    obtain ⟨g, o, n, k, _, h1, _, h0, rfl⟩ := hx
    refine ⟨.int .i64 n, ⟨n, h1, rfl⟩, fun w => ?_⟩
    have : ((n.toNat : Nat) : Int) = n := Int.toNat_of_nonneg h0
    simp [Builtin.len_, ht, run_underlying hu, goInt, this]
  · rename_i el b off m dc hu
    cases e
    obtain ⟨g, o, k, z, _, _, _, rfl⟩ := hx
    exact ⟨_, rfl, fun w => by simp [Builtin.len_, ht, run_underlying hu, goInt]⟩
  · rename_i m el hu
    cases e
    exact ⟨_, rfl, fun w => by simp [Builtin.len_, ht, run_underlying hu, goInt]⟩
  · rename_i s hu
    cases e
    cases (hx : v = _)
    have hs : (⟨s.toArray⟩ : ByteArray).size = s.length := by show s.toArray.size = _; simp
    exact ⟨_, rfl, fun w => by simp [Builtin.len_, ht, run_underlying hu, goInt, hs]⟩
  · cases e
def IA.cv (k : IntKind) : IA → CV
  | .l n => .il k n
  | .v i => .iv k i
def aMax2 (s : St) (k : IntKind) (a b : IA) : Tree (TV × St) :=
  match knownLt s a b with
  | some true => .leaf (.v (.c (b.cv k)), s)
  | some false => .leaf (.v (.c (a.cv k)), s)
  | none => match rangeOf s a, rangeOf s b with
    | some (al, ah), some (bl, bh) => mkI s k (.max a b) (max al bl) (max ah bh)
    | _, _ => .fail "max"
theorem IA.back {ρ : Env} {s : St} (H : MRel' ρ s) {k : IntKind} {a : IA} {r : Int × Int} (hr : rangeOf s a = some r) : CRel ρ (a.cv k) (.int k (a.ev ρ.m)) := by
  cases a with
  | l n => rfl
  | v i =>
    have hlt : i < ρ.m.I.length := by rw [H.nI]; exact Sq.get_lt hr
    refine ⟨_, List.getElem?_eq_getElem hlt, ?_⟩
    show Value.int k (ρ.m.I.getD i 0) = _
    rw [List.getD_eq_getElem?_getD, List.getElem?_eq_getElem hlt]; rfl
theorem knownLt_ranges {s : St} {a b : IA} {x : Bool} (e : knownLt s a b = some x) : (∃ r, rangeOf s a = some r) ∧ ∃ r, rangeOf s b = some r := by
  unfold knownLt at e
  split at e
  · rename_i al ah bl bh ha hb; exact ⟨⟨_, ha⟩, _, hb⟩
  · cases e
theorem aMax2_ok {ρ : Env} {s : St} (H : MRel' ρ s) {k : IntKind} {a b : IA} : VPure T w0 P ρ s (Builtin.max2 (.int k (a.ev ρ.m)) (.int k (b.ev ρ.m))) (aMax2 s k a b) := by
  unfold aMax2
  split
  · rename_i h
    have e := knownLt_ok H h
    obtain ⟨_, _, hb⟩ := knownLt_ranges h
    simp at e
    exact VPure.leaf (v := .int k (b.ev ρ.m)) (IA.back H hb) (fun w => by simp [Builtin.max2, e])
  · rename_i h
    have e := knownLt_ok H h
    obtain ⟨⟨_, ha⟩, _⟩ := knownLt_ranges h
    simp at e
    exact VPure.leaf (v := .int k (a.ev ρ.m)) (IA.back H ha) (fun w => by simp [Builtin.max2]; intro h; omega)
  · split
    · rename_i al ah bl bh ha hb
      have ra := rangeOf_ok H ha
      have rb := rangeOf_ok H hb
      refine mkI_ok H (by simp only [ID.ev]; split <;> omega) (by simp only [ID.ev]; split <;> omega) (fun _ w => ?_)
      simp [Builtin.max2, ID.ev]
    · exact VPure.fail
def aMin2 (s : St) (k : IntKind) (a b : IA) : Tree (TV × St) :=
  match knownLt s b a with
  | some true => .leaf (.v (.c (b.cv k)), s)
  | some false => .leaf (.v (.c (a.cv k)), s)
  | none => match rangeOf s a, rangeOf s b with
    | some (al, ah), some (bl, bh) => mkI s k (.min a b) (min al bl) (min ah bh)
    | _, _ => .fail "min"
theorem aMin2_ok {ρ : Env} {s : St} (H : MRel' ρ s) {k : IntKind} {a b : IA} : VPure T w0 P ρ s (Builtin.min2 (.int k (a.ev ρ.m)) (.int k (b.ev ρ.m))) (aMin2 s k a b) := by
  unfold aMin2
  split
  · rename_i h
    have e := knownLt_ok H h
    obtain ⟨⟨_, hb⟩, _⟩ := knownLt_ranges h
    simp at e
    exact VPure.leaf (v := .int k (b.ev ρ.m)) (IA.back H hb) (fun w => by simp [Builtin.min2, e])
  · rename_i h
    have e := knownLt_ok H h
    obtain ⟨_, _, ha⟩ := knownLt_ranges h
    simp at e
    exact VPure.leaf (v := .int k (a.ev ρ.m)) (IA.back H ha) (fun w => by simp [Builtin.min2]; intro h; omega)
  · split
    · rename_i al ah bl bh ha hb
      have ra := rangeOf_ok H ha
      have rb := rangeOf_ok H hb
      refine mkI_ok H (by simp only [ID.ev]; split <;> omega) (by simp only [ID.ev]; split <;> omega) (fun _ w => ?_)
      simp [Builtin.min2, ID.ev]
    · exact VPure.fail
def aFold (f : St → IntKind → IA → IA → Tree (TV × St)) : List CV → CV → St → Tree (TV × St)
  | [], x, s => .leaf (.v (.c x), s)
  | y :: l, x, s => match numOf x, numOf y with
    | some (k, a), some (k', b) => if k = k' then (f s k a b).bind fun r => match r with
      | (.v (.c z), s') => aFold f l z s'
      | _ => .fail "fold" else .fail "fold"
    | _, _ => .fail "fold"
theorem aFold_ok {f : St → IntKind → IA → IA → Tree (TV × St)} {g : Value → Value → Sem Value} (w : World) (hf : ∀ (ρ : Env) (s : St) (k : IntKind) (a b : IA), MRel' ρ s → VPure T w0 P ρ s (g (.int k (a.ev ρ.m)) (.int k (b.ev ρ.m))) (f s k a b))
    (l : List CV) : ∀ (vs : List Value) (x : CV) (v : Value) (ρ : Env) (s : St), SRel T w0 ρ s w → All2 (CRel ρ) l vs → CRel ρ x v → VPure T w0 P ρ s (vs.foldlM g v) (aFold f l x s) := by
  induction l with
  | nil =>
    intro vs x v ρ s H h hx
    cases vs with
    | nil => exact VPure.leaf (v := v) hx (fun _ => rfl)
    | cons => exact h.elim
  | cons y l ih =>
    intro vs x v ρ s H h hx
    cases vs with
    | nil => exact h.elim
    | cons u vs =>
    obtain ⟨h1, h2⟩ := h
    unfold aFold
    split
    · rename_i k a k' b e1 e2
      split
      · rename_i hk
        subst hk
        have r1 := numOf_rel hx e1
        have r2 := numOf_rel h1 e2
        subst r1; subst r2
        intro K hK
        rw [Tree.vc_bind] at hK
        obtain ⟨ρ', tv, s', z, k1, k2, b1, b2, b3, k3, k4, k5⟩ := hf ρ s k a b H.m' _ hK
        split at k1
        · rename_i c s'' he
          obtain ⟨rfl, rfl⟩ := Prod.mk.inj he
          obtain ⟨ρ2, tv2, s2, z2, j1, j2, c1, c2, c3, j3, j4, j5⟩ := ih vs c z ρ' s' (k3 w H) (h2.mono fun _ _ => CRel.mono k2) k4 K k1
          exact ⟨ρ2, tv2, s2, z2, j1, k2.trans j2, c1.trans b1, c2.trans b2, c3.trans b3, fun w1 H1 => j3 w1 (k3 w1 H1), j4, fun w1 => by rw [List.foldlM_cons, Sem.run_bind, k5]; exact j5 w1⟩
        · exact k1.elim
      · exact VPure.fail
    · exact VPure.fail
end
end Go.Proofs.VM
namespace Go.Proofs.VM
open Go.RowKit
noncomputable section
variable {T : FT} {w0 : World} {P : Program}
def evalAs (tmps : TL) : List Operand → Option (List AV)
  | [] => some []
  | o :: l => match evalA tmps o, evalAs tmps l with
    | some x, some k => some (x :: k)
    | _, _ => none
def evalCs (tmps : TL) : List Operand → Option (List CV)
  | [] => some []
  | o :: l => match evalC tmps o, evalCs tmps l with
    | some x, some k => some (x :: k)
    | _, _ => none
def evalPs (tmps : TL) : List (Nat × Operand) → Option (List (Nat × AV))
  | [] => some []
  | (i, o) :: l => match evalA tmps o, evalPs tmps l with
    | some x, some k => some ((i, x) :: k)
    | _, _ => none
section
variable {ρ : Env} {tmps : TL} {a : Act}
theorem evalAs_rel (h : TmR ρ tmps a.tmps.toList) : ∀ {l : List Operand} {k : List AV}, evalAs tmps l = some k → All2 (ARel ρ) k (l.map a.eval)
  | [], k, e => by cases e; trivial
  | o :: l, k, e => by
    simp only [evalAs] at e
    split at e
    · rename_i x k' e1 e2
      cases e
      exact ⟨evalA_rel h e1, evalAs_rel h e2⟩
    · cases e
theorem evalCs_rel (h : TmR ρ tmps a.tmps.toList) : ∀ {l : List Operand} {k : List CV}, evalCs tmps l = some k → All2 (CRel ρ) k (l.map a.eval)
  | [], k, e => by cases e; trivial
  | o :: l, k, e => by
    simp only [evalCs] at e
    split at e
    · rename_i x k' e1 e2
      cases e
      exact ⟨evalC_rel h e1, evalCs_rel h e2⟩
    · cases e
theorem evalPs_rel (h : TmR ρ tmps a.tmps.toList) : ∀ {l : List (Nat × Operand)} {k : List (Nat × AV)}, evalPs tmps l = some k → All2 (fun x y => x.1 = y.1 ∧ ARel ρ x.2 y.2) k (l.map fun x => (x.1, a.eval x.2))
  | [], k, e => by cases e; trivial
  | (i, o) :: l, k, e => by
    simp only [evalPs] at e
    split at e
    · rename_i x k' e1 e2
      cases e
      exact ⟨⟨rfl, evalA_rel h e1⟩, evalPs_rel h e2⟩
    · cases e
end
def evalOpt (tmps : TL) : Option Operand → Option (Option CV)
  | none => some none
  | some o => (evalC tmps o).map some
theorem evalOpt_rel {ρ : Env} {tmps : TL} {a : Act} (h : TmR ρ tmps a.tmps.toList) {o : Option Operand} {x : Option CV} (e : evalOpt tmps o = some x) : oRel ρ x (o.map a.eval) := by
  cases o with
  | none => cases e; trivial
  | some o =>
    obtain ⟨y, h1, rfl⟩ := Option.map_eq_some_iff.1 e
    exact evalC_rel h h1
theorem map_arr {α β : Type} (f : α → β) (a : Array α) : (a.toList.map f).toArray = a.map f := by rw [← Array.toList_map, Array.toArray_toList]
def lfb (s : St) : Option AV → Tree (TV × St)
  | some (.c (.fc i 0)) => mkB s (.neg i)
  | some x => .leaf (.v x, s)
  | none => .fail "none"
def lf (s : St) : Option AV → Tree (TV × St)
  | some y => .leaf (.v y, s)
  | none => .fail "value"
def lc (s : St) : Option CV → Tree (TV × St)
  | some y => .leaf (.v (.c y), s)
  | none => .fail "cell"
def lo : Option (TV × St) → Tree (TV × St)
  | some y => .leaf y
  | none => .fail "new"
def aBuiltin (P : Program) (s : St) (b : Builtin) (ts : Array TypeId) (args : List AV) : Tree (TV × St) :=
  match b, args with
  | .len, [.c (.fc i 1)] => match ts[0]?.bind P.underlying, s.fit.get i with
    | some (.slice _), some k => if k ≤ 2432 then mkI s .i64 (.nlen i) 0 (k + 1 : Nat) else .fail "len of the second kind"
    | _, _ => .fail "len of limbs"
  | .len, [x] => match ts[0]? with
    | some t => match aLen P t x with
      | some n => .leaf (.v (.c n), s)
      | none => .fail "len"
    | none => .fail "len"
  | .cap, [x] => match ts[0]?.bind P.underlying, x with
    | some (.slice _), .c (.sc _ _ _ c) => .leaf (.v (.c (.il .i64 c)), s)
    | some (.slice _), .c .nsl => .leaf (.v (.c (.il .i64 0)), s)
    | _, _ => .fail "cap"
  | .max, .c x :: l => match AV.cs l with
    | some k => aFold aMax2 k x s
    | none => .fail "max"
  | .min, .c x :: l => match AV.cs l with
    | some k => aFold aMin2 k x s
    | none => .fail "min"
  | .real, [.c (.cx k r _)] => .leaf (.v (.c (.fl k r)), s)
  | .imag, [.c (.cx k _ i)] => .leaf (.v (.c (.fl k i)), s)
  | _, _ => .fail "builtin"
where AV.cs : List AV → Option (List CV)
  | [] => some []
  | .c x :: l => (AV.cs l).map (x :: ·)
  | _ => none
def opMove (tmps : TL) (s : St) (x : Operand) : Tree (TV × St) := match evalO tmps x with | some t => .leaf (t, s) | none => .fail "move"
def opNil (tmps : TL) (s : St) (x : Operand) : Tree (TV × St) := match evalC tmps x with
  | some (.pt b off) => .leaf (.v (.c (.pt b off)), s)
  | _ => .fail "nilCheck"
def opPick (tmps : TL) (s : St) (c a b : Operand) : Tree (TV × St) := match evalC tmps c, evalO tmps a, evalO tmps b with
    | some c, some a, some b => aPick s c a b
    | _, _, _ => .fail "pick"
def opBox (tmps : TL) (s : St) (t : TypeId) (x : Operand) : Tree (TV × St) := match evalA tmps x with | some x => lo (aBox s t x) | none => .fail "box"
def opBuild (P : Program) (tmps : TL) (s : St) (t : TypeId) (ps : Array (Nat × Operand)) : Tree (TV × St) := match evalPs tmps ps.toList with | some ps => lf s (aBuild P t ps) | none => .fail "build"
def oneWord (P : Program) (t : TypeId) (n : Nat) : List (Nat × AV) → Option Nat
  | [(0, .c (.il .u64 (.ofNat (k + 1))))] => match P.underlying t with
    | some (.slice el) => match sizeT P el, zeroT P el with
      | some 1, some (.int _ _) => if n = 1 ∧ k + 1 < 18446744073709551616 then some (k + 1) else none
      | _, _ => none
    | _ => none
  | _ => none
def opBuildSlice (P : Program) (tmps : TL) (s : St) (t : TypeId) (n : Nat) (ps : Array (Nat × Operand)) : Tree (TV × St) := match evalPs tmps ps.toList with
  | some ps => match oneWord P t n ps with
    | some k => .letQ (.int (.l k)) (.leaf (.v (.c (.fc s.fit.n 1)), s.addF 64))
    | none => lo (aBuildSlice P s t n ps)
  | none => .fail "buildSlice"
def opLoad (P : Program) (tmps : TL) (s : St) (t : TypeId) (x : Operand) : Tree (TV × St) := match evalC tmps x with | some x => lfb s (aLoad P s t x) | none => .fail "load"
def opBin (P : Program) (tmps : TL) (s : St) (op : BinOp) (t : TypeId) (x y : Operand) : Tree (TV × St) := match evalA tmps x, evalA tmps y with
    | some x, some y => aBin P s op t x y
    | _, _ => .fail "bin"
def opUn (tmps : TL) (s : St) (op : UnOp) (x : Operand) : Tree (TV × St) := match evalC tmps x with | some x => aUn s op x | none => .fail "un"
def opConv (P : Program) (tmps : TL) (s : St) (a b : TypeId) (x : Operand) : Tree (TV × St) := match evalC tmps x with | some x => aConv P s a b x | none => .fail "conv"
def opFunc (tmps : TL) (s : St) (f : FuncId) (first : Array Operand) (caps : Array Operand) : Tree (TV × St) := if first.size = 0 then (match evalCs tmps caps.toList with | some l => .leaf (.v (.c (.cl s.ncl)), s.addC f l) | none => .fail "func") else .fail "func"
def opIface (P : Program) (tmps : TL) (s : St) (t : TypeId) (x : Operand) : Tree (TV × St) := match evalA tmps x with
  | some a => match P.concrete t with
    | true => .leaf (.ifc t a, s)
    | false => .fail "interface"
  | none => .fail "interface"
def opMake (P : Program) (tmps : TL) (s : St) (t : TypeId) (l c : Operand) : Tree (TV × St) := match evalC tmps l, evalC tmps c with
    | some l, some c => lo (aMakeSlice P s t (litC s l) (litC s c))
    | _, _ => .fail "make"
def opSlice (P : Program) (tmps : TL) (s : St) (t : TypeId) (x : Operand) (l h : Option Operand) : Tree (TV × St) := match evalC tmps x, evalOpt tmps l, evalOpt tmps h with
    | some x, some l, some h => lc s (aSlice P t l h x)
    | _, _, _ => .fail "slice"
def opSlice3 (P : Program) (tmps : TL) (s : St) (t : TypeId) (x : Operand) (l : Option Operand) (h m : Operand) : Tree (TV × St) := match evalC tmps x, evalOpt tmps l, evalC tmps h, evalC tmps m with
    | some x, some l, some h, some m => lc s (aSlice3 P t l h m x)
    | _, _, _, _ => .fail "slice"
def opFieldAddr (P : Program) (tmps : TL) (s : St) (t : TypeId) (x : Operand) (f : Nat) : Tree (TV × St) := match evalC tmps x with | some x => lc s (aFieldAddr P t f x) | none => .fail "fieldAddr"
def opField (P : Program) (tmps : TL) (s : St) (t : TypeId) (x : Operand) (f : Nat) : Tree (TV × St) := match evalA tmps x with | some x => lfb s (aField P t f x) | none => .fail "field"
def splitX (g : CV → St → Tree (TV × St)) (k : IntKind) (i : Nat) : Nat → Int → St → Tree (TV × St)
  | 0, c, s => g (.il k c) s
  | n + 1, c, s => .letB (.eq (.v i) (.l c)) (.ifB s.nB (g (.il k c) s.addB) (splitX g k i n (c + 1) s.addB))
def atIx (g : CV → St → Tree (TV × St)) (s : St) : CV → Tree (TV × St)
  | .iv k i => match s.rng.get i with
    | some (lo, hi) => if lo ≤ hi ∧ hi - lo ≤ 16 then splitX g k i (hi - lo).toNat lo s else g (.iv k i) s
    | none => g (.iv k i) s
  | y => g y s
def opIndexAddr (P : Program) (tmps : TL) (s : St) (t : TypeId) (x i : Operand) : Tree (TV × St) := match evalC tmps x, evalC tmps i with
    | some x, some i => atIx (fun i s => lc s (aIndexAddr P t x i)) s i
    | _, _ => .fail "indexAddr"
def opIndex (P : Program) (tmps : TL) (s : St) (t : TypeId) (x i : Operand) : Tree (TV × St) := match evalA tmps x, evalC tmps i with
    | some x, some i => atIx (fun i s => lf s (aIndex P t x i)) s i
    | _, _ => .fail "index"
def opExtract (tmps : TL) (s : St) (x : Operand) (i : Nat) : Tree (TV × St) := match evalO tmps x with | some x => lf s (aExtract i x) | none => .fail "extract"
def opCall (P : Program) (tmps : TL) (s : St) (c : Call) : Tree (TV × St) := match c.callee with
    | .builtin .append => match evalAs tmps c.args.toList with
      | some [.c x, .c y] => lo (aAppend P s c.argTypes x y)
      | _ => .fail "append"
    | .builtin .copy => match evalAs tmps c.args.toList with
      | some [.c x, .c y] => lo (aCopy P s c.argTypes x y)
      | _ => .fail "copy"
    | .builtin b => match evalAs tmps c.args.toList with | some l => aBuiltin P s b c.argTypes l | none => .fail "args"
    | _ => .fail "call"
def aOpV (P : Program) (tmps : TL) (s : St) (o : Op) : Tree (TV × St) :=
  match o with
  | .move x => opMove tmps s x
  | .assign x => opMove tmps s x
  | .nilCheck x => opNil tmps s x
  | .pick c a b => opPick tmps s c a b
  | .alloc t => lo (aAlloc P s t)
  | .box t x => opBox tmps s t x
  | .build t ps => opBuild P tmps s t ps
  | .buildSlice t n ps => opBuildSlice P tmps s t n ps
  | .load t x => opLoad P tmps s t x
  | .binOp op t x y _ => opBin P tmps s op t x y
  | .unOp op _ x => opUn tmps s op x
  | .convert a b x => opConv P tmps s a b x
  | .makeFunc (.func f) first caps => opFunc tmps s f first caps
  | .makeSlice t l c => opMake P tmps s t l c
  | .makeInterface t x => opIface P tmps s t x
  | .slice t x l h none => opSlice P tmps s t x l h
  | .slice t x l (some h) (some m) => opSlice3 P tmps s t x l h m
  | .fieldAddr t x f => opFieldAddr P tmps s t x f
  | .field t x f => opField P tmps s t x f
  | .indexAddr t x i => opIndexAddr P tmps s t x i
  | .index t x i => opIndex P tmps s t x i
  | .extract x i => opExtract tmps s x i
  | .call c => opCall P tmps s c
  | _ => .fail "op"
def NOk (T : FT) (w0 : World) (P : Program) (ρ : Env) (w : World) (sem : Sem Next) (t : Tree (TV × St)) : Prop :=
  ∀ K, t.vc T.txt ρ.m K → ∃ ρ' tv s' v w', K (tv, s') ρ'.m ∧ ρ.le ρ' ∧ SRel T w0 ρ' s' w' ∧ TRel ρ' tv v ∧ sem.run P w = .ok (.value v) w'
theorem NOk.fail {ρ : Env} {w : World} {sem : Sem Next} {why : String} : NOk T w0 P ρ w sem (.fail why) := fun _ h => h.elim
theorem VOk.next {ρ : Env} {w : World} {sem : Sem Value} {t : Tree (TV × St)} (h : VOk T w0 P ρ w sem t) : NOk T w0 P ρ w (do pure (.value (← sem))) t := fun K hK => by
  obtain ⟨ρ', tv, s', v, w', h1, h2, h3, h4, h5⟩ := h K hK
  exact ⟨ρ', tv, s', v, w', h1, h2, h3, h4, by simp [h5]⟩
def NPure (T : FT) (w0 : World) (P : Program) (ρ : Env) (s : St) (sem : Sem Next) (t : Tree (TV × St)) : Prop :=
  ∀ K, t.vc T.txt ρ.m K → ∃ ρ' tv s' v, K (tv, s') ρ'.m ∧ ρ.le ρ' ∧ ρ'.blk = ρ.blk ∧ ρ'.F = ρ.F ∧ s'.heap = s.heap ∧ (∀ w1, SRel T w0 ρ s w1 → SRel T w0 ρ' s' w1) ∧ TRel ρ' tv v ∧ ∀ w1, sem.run P w1 = .ok (.value v) w1
theorem NPure.fail {ρ : Env} {s : St} {sem : Sem Next} {why : String} : NPure T w0 P ρ s sem (.fail why) := fun _ h => h.elim
theorem VPure.next {ρ : Env} {s : St} {sem : Sem Value} {t : Tree (TV × St)} (h : VPure T w0 P ρ s sem t) : NPure T w0 P ρ s (do pure (.value (← sem))) t := fun K hK => by
  obtain ⟨ρ', tv, s', v, h1, h2, a, b, c, h3, h4, h5⟩ := h K hK
  exact ⟨ρ', tv, s', v, h1, h2, a, b, c, h3, h4, fun w1 => by simp [h5]⟩
theorem NPure.ok {ρ : Env} {s : St} {w : World} {sem : Sem Next} {t : Tree (TV × St)} (H : SRel T w0 ρ s w) (h : NPure T w0 P ρ s sem t) : NOk T w0 P ρ w sem t := fun K hK => by
  obtain ⟨ρ', tv, s', v, h1, h2, _, _, _, h3, h4, h5⟩ := h K hK
  exact ⟨ρ', tv, s', v, w, h1, h2, h3 w H, h4, h5 w⟩
theorem lfp_ok {ρ : Env} {s : St} {sem : Sem Value} {y : Option AV} (h : ∀ z, y = some z → ∃ u, (∀ w, sem.run P w = .ok u w) ∧ ARel ρ z u) : NPure T w0 P ρ s (do pure (.value (← sem))) (lf s y) := by
  cases y with
  | none => exact NPure.fail
  | some z => obtain ⟨u, h1, h2⟩ := h z rfl; exact (VPure.leaf (tv := .v z) (v := u) h2 h1).next
theorem fits_natQ {k n : Nat} (h : n < 2 ^ k) (hk : 1 ≤ k) : Fits k (natQ n) := by
  have h1 : 2 ^ 1 ≤ 2 ^ k := Nat.pow_le_pow_right (by decide) hk
  exact ⟨h, show (1 : Nat) < 2 ^ k by omega⟩
theorem oneWord_ok {ρ : Env} {s : St} {w : World} (H : SRel T w0 ρ s w) {t : TypeId} {n k : Nat} {ps : List (Nat × AV)} {vparts : Array (Nat × Value)} (hp : All2 (fun x y => x.1 = y.1 ∧ ARel ρ x.2 y.2) ps vparts.toList) (e : oneWord P t n ps = some k) :
    VOk T w0 P ρ w (Instr.buildSlice t n vparts) (.letQ (.int (.l k)) (.leaf (.v (.c (.fc s.fit.n 1)), s.addF 64))) := by
  unfold oneWord at e
  split at e
  · rename_i j
    split at e
    · rename_i el hu
      split at e
      · rename_i kk z h1 hz
        split at e
        · rename_i hc
          cases e
          obtain ⟨l⟩ := vparts
          match l, hp with
          | [(i, v)], ⟨⟨hi, hv⟩, _⟩ =>
            obtain rfl : i = 0 := hi.symm
            have hv : v = .int .u64 (Int.ofNat (j + 1)) := hv
            subst hv
            obtain ⟨rfl, hlt⟩ := hc
            intro K hK
            have hw := T.word (w := w) (t := el) (n := j + 1) (by omega) hlt
            have hb : Below w.heap.size w (w.alloc (.cells #[.int .u64 (j + 1 : Nat)] el)) := (Below.refl _ _).alloc (Nat.le_refl _) _
            obtain ⟨l1, H1⟩ := H.pushF hb (t := (.bool false, .slice (some ⟨w.heap.size, 0, none⟩) 1 1, .slice none 0 0)) (k := 64) (.of hw (by decide)) (fits_lt' (fits_natQ hlt (by decide)) (by decide))
            have hK : K (.v (.c (.fc s.fit.n 1)), s.addF 64) (ρ.m.pushQ (natQ (j + 1))) := hK (natQ (j + 1)) rfl
            refine ⟨_, .v (.c (.fc s.fit.n 1)), s.addF 64, .slice (some ⟨w.heap.size, 0, none⟩) 1 1, _, hK, l1, H1, ⟨(.bool false, .slice (some ⟨w.heap.size, 0, none⟩) 1 1, .slice none 0 0), by simp [Env.addF], rfl⟩, ?_⟩
            simp only [Instr.buildSlice, Sem.run_bind, run_underlying hu, Result.andThen_ok, run_sizeOf' h1]
            rw [if_neg (by omega), if_neg (by omega)]
            simp only [Sem.run_bind, run_zeroValue' hz, Result.andThen_ok, Sem.run_pure]
            have hf : Instr.fill (fun i => some (i * 1, 1)) ((Array.range (1 * 1)).map fun x => (Value.int kk z).cells[x % (Value.int kk z).cells.size]!) [(0, Value.int IntKind.u64 (Int.ofNat (j + 1)))] = some #[.int .u64 (j + 1 : Nat)] := by
              simp [Instr.fill, Value.cells, show Array.range 1 = #[0] from rfl]
            rw [hf]
            rfl
        · cases e
      · cases e
    · cases e
  · cases e
theorem lfb_ok {ρ : Env} {s : St} (H : MRel' ρ s) {sem : Sem Value} {y : Option AV} (h : ∀ z, y = some z → ∃ u, (∀ w, sem.run P w = .ok u w) ∧ ARel ρ z u) : NPure T w0 P ρ s (do pure (.value (← sem))) (lfb s y) := by
  unfold lfb
  split
  · rename_i i
    obtain ⟨u, h1, h2⟩ := h _ rfl
    obtain ⟨t, e, rfl⟩ := (h2 : ∃ t, ρ.F i = some t ∧ u = nth3 t 0)
    refine (mkB_ok H (fun w => ?_)).next
    rw [h1 w]
    show Result.ok t.1 w = _
    rw [H.frac i t e]; rfl
  · rename_i z _
    obtain ⟨u, h1, h2⟩ := h z rfl
    exact (VPure.leaf (tv := .v z) (v := u) h2 h1).next
  · exact NPure.fail
theorem nlB_le {n k : Nat} (h : n < 2 ^ k) : nlB n ≤ k + 1 := by
  unfold nlB
  split
  · omega
  · rename_i m
    have : Nat.log2 (m + 1) < k := (Nat.log2_lt (by omega)).2 h
    omega
theorem lcp_ok {ρ : Env} {s : St} {sem : Sem Value} {y : Option CV} (h : ∀ z, y = some z → ∃ u, (∀ w, sem.run P w = .ok u w) ∧ CRel ρ z u) : NPure T w0 P ρ s (do pure (.value (← sem))) (lc s y) := by
  cases y with
  | none => exact NPure.fail
  | some z => obtain ⟨u, h1, h2⟩ := h z rfl; exact (VPure.leaf (tv := .v (.c z)) (v := u) h2 h1).next
theorem splitX_ok {g : CV → St → Tree (TV × St)} {k : IntKind} {i : Nat} {sem : Sem Next} {x : Int} : ∀ (n : Nat) {ρ : Env} {s : St}, (∀ ρ' s', ρ.le ρ' → NPure T w0 P ρ' s' sem (g (.il k x) s')) → MRel' ρ s → ∀ {c : Int}, ρ.m.I[i]? = some x → c ≤ x → x ≤ c + n → NPure T w0 P ρ s sem (splitX g k i n c s)
  | 0, ρ, s, hg, _, c, _, h1, h2 => by
    have : x = c := by omega
    subst this
    exact hg ρ s (.refl _)
  | n + 1, ρ, s, hg, H, c, hx, h1, h2 => by
    intro K hK
    have hK := hK _ rfl
    have e1 : (BD.eq (.v i) (.l c)).ev ρ.m = decide (x = c) := by
      show decide (ρ.m.I.getD i 0 = c) = _
      rw [List.getD_eq_getElem?_getD, hx]; rfl
    rw [e1] at hK
    have hbit : (ρ.m.pushB (decide (x = c))).b s.nB = decide (x = c) := by
      unfold M.b M.pushB
      rw [← H.nB]
      simp [List.getD_eq_getElem?_getD]
    have hle : ρ.le (ρ.withM (ρ.m.pushB (decide (x = c)))) := Env.le_withM (M.le_pushB _ _)
    by_cases hc : x = c
    · have hK := hK.1 (by rw [hbit]; simpa using hc)
      have hg1 := hg (ρ.withM (ρ.m.pushB (decide (x = c)))) s.addB hle
      rw [hc] at hg1
      rw [hc] at hK
      obtain ⟨ρ', tv, s', v, k1, k2, k3, k4, k5, k6, k7, k8⟩ := hg1 K hK
      rw [hc] at hle
      refine ⟨ρ', tv, s', v, k1, hle.trans k2, k3, k4, k5, fun w1 H1 => k6 w1 ?_, k7, k8⟩
      exact H1.pushB _
    · have hK := hK.2 (by rw [hbit]; simpa using hc)
      obtain ⟨ρ', tv, s', v, k1, k2, k3, k4, k5, k6, k7, k8⟩ := splitX_ok n (fun ρ' s' h => hg ρ' s' (hle.trans h)) (H.pushB (decide (x = c))) (c := c + 1) hx (by omega) (by omega) K hK
      exact ⟨ρ', tv, s', v, k1, hle.trans k2, k3, k4, k5, fun w1 H1 => k6 w1 (H1.pushB _), k7, k8⟩
theorem atIx_ok {ρ : Env} {s : St} (H : MRel' ρ s) {sem : Sem Next} {y : CV} {u : Value} (hy : CRel ρ y u) {g : CV → St → Tree (TV × St)} (hg : ∀ ρ' s', ρ.le ρ' → ∀ y', CRel ρ' y' u → NPure T w0 P ρ' s' sem (g y' s')) : NPure T w0 P ρ s sem (atIx g s y) := by
  unfold atIx
  split
  · rename_i k i
    obtain ⟨x, hx, rfl⟩ := id hy
    split
    · rename_i lo hi hr
      obtain ⟨h1, h2⟩ := H.rng i lo hi x hr hx
      split
      · rename_i hc
        exact splitX_ok _ (fun ρ' s' h => hg ρ' s' h _ rfl) H hx h1 (by omega)
      · exact hg ρ s (.refl _) _ hy
    · exact hg ρ s (.refl _) _ hy
  · exact hg ρ s (.refl _) _ hy
theorem neg_read {ρ : Env} {s : St} {w : World} (H : SRel T w0 ρ s w) {i : Nat} {u : Value} (h : CRel ρ (.fc i 0) u) :
    ρ.le (ρ.withM (ρ.m.pushB ((BD.neg i).ev ρ.m))) ∧ SRel T w0 (ρ.withM (ρ.m.pushB ((BD.neg i).ev ρ.m))) s.addB w ∧ CRel (ρ.withM (ρ.m.pushB ((BD.neg i).ev ρ.m))) (.bv s.nB) u := by
  obtain ⟨t, e, rfl⟩ := (h : ∃ t, ρ.F i = some t ∧ u = nth3 t 0)
  refine ⟨Env.le_withM (M.le_pushB _ _), H.pushB _, (BD.neg i).ev ρ.m, ?_, H.m'.frac i t e⟩
  show (ρ.m.B ++ [_])[s.nB]? = some _
  rw [← H.m.nB]; simp
theorem lfbN_ok {ρ : Env} {s : St} {w : World} (H : SRel T w0 ρ s w) {sem : Sem Value} {y : Option AV} (h : ∀ z, y = some z → ∃ u, sem.run P w = .ok u w ∧ ARel ρ z u) : NOk T w0 P ρ w (do pure (.value (← sem))) (lfb s y) := by
  unfold lfb
  split
  · rename_i i
    obtain ⟨u, h1, h2⟩ := h _ rfl
    obtain ⟨l1, H1, hr⟩ := neg_read H h2
    intro K hK
    have hK : K (.v (.c (.bv s.nB)), s.addB) (ρ.m.pushB ((BD.neg i).ev ρ.m)) := hK _ rfl
    exact ⟨_, .v (.c (.bv s.nB)), s.addB, u, w, hK, l1, H1, hr, by simp [h1]⟩
  · rename_i z _
    obtain ⟨u, h1, h2⟩ := h z rfl
    intro K hK
    exact ⟨ρ, .v z, s, u, w, hK, .refl _, H, h2, by simp [h1]⟩
  · exact NOk.fail
theorem lo_ok {ρ : Env} {w : World} {sem : Sem Value} {y : Option (TV × St)} (h : ∀ z, y = some z → VOk T w0 P ρ w sem (.leaf z)) : NOk T w0 P ρ w (do pure (.value (← sem))) (lo y) := by
  cases y with
  | none => exact NOk.fail
  | some z => exact (h z rfl).next
theorem cs_rel {ρ : Env} : ∀ {l : List AV} {vs : List Value} {k : List CV}, All2 (ARel ρ) l vs → aBuiltin.AV.cs l = some k → All2 (CRel ρ) k vs
  | [], [], k, _, e => by cases e; trivial
  | .c x :: l, v :: vs, k, ⟨h1, h2⟩, e => by
    obtain ⟨k', e1, rfl⟩ := Option.map_eq_some_iff.1 e
    exact ⟨h1, cs_rel h2 e1⟩
  | .agg _ :: _, _ :: _, _, _, e => by cases e
theorem aBuiltin_ok {ρ : Env} {s : St} {w : World} (H : SRel T w0 ρ s w) {b : Builtin} {ts : Array TypeId} {ty : TypeId} {consts : Array Bool} {args : List AV} {vs : List Value} (h : All2 (ARel ρ) args vs) : NPure T w0 P ρ s (builtin b ts ty consts vs.toArray) (aBuiltin P s b ts args) := by
  unfold aBuiltin
  split
  · rename_i i
    match vs, h with
    | [v], ⟨hv, _⟩ =>
      obtain ⟨t, e, rfl⟩ := (hv : ∃ t, ρ.F i = some t ∧ v = nth3 t 1)
      split
      · rename_i el k ht hk
        obtain ⟨tt, h1, h2⟩ := Option.bind_eq_some_iff.1 ht
        split
        · rename_i hle
          obtain ⟨h5, a, c, h3⟩ := H.m'.fit i k t e hk hle
          have h4 := nlB_le h5
          refine (mkI_ok H.m' (d := .nlen i) (by simp only [ID.ev]; omega) (by simp only [ID.ev]; omega) (fun _ w => ?_)).next
          show (Builtin.len_ ts ty #[t.2.1]).run P w = _
          rw [h3]
          simp [Builtin.len_, h1, run_underlying h2, goInt, ID.ev]
        · exact NPure.fail
      · exact NPure.fail
  · rename_i x
    cases vs with
    | nil => exact h.elim
    | cons v vs => cases vs with
      | cons => exact h.2.elim
      | nil =>
        split
        · rename_i t ht
          split
          · rename_i n hn
            obtain ⟨u, hu, hrun⟩ := aLen_ok ht h.1 hn
            exact (VPure.leaf (tv := .v (.c n)) (v := u) hu hrun).next
          · exact NPure.fail
        · exact NPure.fail
  · rename_i x
    cases vs with
    | nil => exact h.elim
    | cons v vs => cases vs with
      | cons => exact h.2.elim
      | nil =>
        split
        · rename_i el b off n c ht
          obtain ⟨tt, h1, h2⟩ := Option.bind_eq_some_iff.1 ht
          obtain ⟨g, o, _, rfl⟩ := h.1
          refine (VPure.leaf (tv := .v (.c (.il .i64 c))) (v := .int .i64 c) rfl (fun w => ?_)).next
          show (Builtin.cap_ ts ty #[_]).run P w = _
          simp [Builtin.cap_, h1, run_underlying h2, goInt]
        · rename_i el ht
          obtain ⟨tt, h1, h2⟩ := Option.bind_eq_some_iff.1 ht
          obtain rfl : v = .slice none 0 0 := h.1
          refine (VPure.leaf (tv := .v (.c (.il .i64 0))) (v := .int .i64 0) rfl (fun w => ?_)).next
          show (Builtin.cap_ ts ty #[_]).run P w = _
          simp [Builtin.cap_, h1, run_underlying h2, goInt]
        · exact NPure.fail
  · rename_i x l
    cases vs with
    | nil => exact h.elim
    | cons v vs =>
      split
      · rename_i k hk
        exact (aFold_ok (T := T) (w0 := w0) (P := P) (f := aMax2) (g := Builtin.max2) w (fun ρ s k a b H => aMax2_ok H) k vs x v ρ s H (cs_rel h.2 hk) h.1).next
      · exact NPure.fail
  · rename_i x l
    cases vs with
    | nil => exact h.elim
    | cons v vs =>
      split
      · rename_i k hk
        exact (aFold_ok (T := T) (w0 := w0) (P := P) (f := aMin2) (g := Builtin.min2) w (fun ρ s k a b H => aMin2_ok H) k vs x v ρ s H (cs_rel h.2 hk) h.1).next
      · exact NPure.fail
  · rename_i k r i
    match vs, h with
    | [v], ⟨hv, _⟩ =>
      cases (hv : v = _)
      exact (VPure.leaf (tv := .v (.c (.fl k r))) (v := .float k r) rfl (fun w => rfl)).next
  · rename_i k r i
    match vs, h with
    | [v], ⟨hv, _⟩ =>
      cases (hv : v = _)
      exact (VPure.leaf (tv := .v (.c (.fl k i))) (v := .float k i) rfl (fun w => rfl)).next
  · exact NPure.fail
def isPure : Op → Bool
  | .nilCheck _ | .move _ | .assign _ | .pick .. | .build .. | .binOp .. | .unOp .. | .convert .. | .slice .. | .fieldAddr .. | .field .. | .indexAddr .. | .index .. | .extract .. | .makeInterface .. => true
  | .makeFunc (.func _) _ _ => true
  | .call c => match c.callee with
    | .builtin .append => false
    | .builtin .copy => false
    | .builtin _ => true
    | _ => false
  | _ => false
theorem aOpV_pure {ρ : Env} {s : ASt} {a : Act} {w : World} (H : Rel T w0 ρ s a w) (o : Oper) (hp : isPure o.op = true) : NPure T w0 P ρ s.st (execOp a.eval o) (aOpV P s.tmps s.st o.op) := by
  have ht := H.tr
  have hs := H.sr
  obtain ⟨dst, op, ty, pos, after, guard⟩ := o
  cases op with
  | move x =>
    simp only [aOpV, opMove]
    split
    · rename_i t e; exact fun K hK => ⟨ρ, t, s.st, _, hK, .refl _, rfl, rfl, rfl, fun _ h => h, evalO_rel ht e, fun _ => rfl⟩
    · exact NPure.fail
  | makeInterface t x =>
    simp only [aOpV, opIface]
    split
    · rename_i av e
      split
      · rename_i hc
        refine fun K hK => ⟨ρ, .ifc t av, s.st, .iface t (a.eval x), hK, .refl _, rfl, rfl, rfl, fun _ h => h, ⟨_, rfl, evalA_rel ht e⟩, fun w1 => ?_⟩
        simp only [execOp, Sem.run_bind, run_makeInterface w1 t _ hc, Result.andThen_ok, Sem.run_pure]
      · exact NPure.fail
    · exact NPure.fail
  | assign x =>
    simp only [aOpV, opMove]
    split
    · rename_i t e; exact fun K hK => ⟨ρ, t, s.st, _, hK, .refl _, rfl, rfl, rfl, fun _ h => h, evalO_rel ht e, fun _ => rfl⟩
    · exact NPure.fail
  | nilCheck x =>
    simp only [aOpV, opNil]
    split
    · rename_i b off e
      have hx := evalC_rel ht e
      obtain ⟨g, o, hb, hv⟩ := hx
      exact fun K hK => ⟨ρ, _, s.st, _, hK, .refl _, rfl, rfl, rfl, fun _ h => h, ⟨g, o, hb, rfl⟩, fun w1 => by simp [execOp, hv]⟩
    · exact NPure.fail
  | makeFunc fn first caps =>
    cases fn with
    | func f =>
      simp only [aOpV, opFunc]
      split
      · rename_i h0
        split
        · rename_i l e
          intro K hK
          have hl := evalCs_rel ht e
          obtain ⟨h1, h2⟩ := hs.pushC f hl
          have : first = #[] := Array.eq_empty_of_size_eq_zero h0
          subst this
          refine ⟨ρ.addC s.st.ncl _, _, _, .func (.func f) #[] (caps.map a.eval), hK, h1, rfl, rfl, rfl, fun w1 H1 => (H1.pushC f hl).2, ?_, fun w1 => ?_⟩
          · show (ρ.addC s.st.ncl _).C s.st.ncl = _
            simp only [Env.addC, map_arr, if_true]
          · simp [execOp, Instr.makeFunc]
        · exact NPure.fail
      · exact NPure.fail
    | _ => exact NPure.fail
  | pick c a1 b1 =>
    simp only [aOpV, opPick]
    split
    · rename_i e1 e2 e3
      intro K hK
      obtain ⟨ρ', tv, s', v, h1, h2, b1, b2, b3, h3, h4, h5⟩ := aPick_ok (T := T) (w0 := w0) (P := P) (evalC_rel ht e1) (evalO_rel ht e2) (evalO_rel ht e3) K hK
      refine ⟨ρ', tv, s', v, h1, h2, b1, b2, b3, h3, h4, fun w1 => ?_⟩
      have h5 := h5 w1
      simp only [execOp, Sem.run_bind] at h5 ⊢
      revert h5
      cases (asBool (a.eval c)).run P w1 <;> simp
    · exact NPure.fail
  | build t ps =>
    simp only [aOpV, opBuild]
    split
    · rename_i ps e
      have hp := evalPs_rel ht e
      exact lfp_ok (fun z e2 => aBuild_ok hs.m (vparts := _) (by simpa using hp) e2)
    · exact NPure.fail
  | binOp op t x y t2 =>
    simp only [aOpV, opBin]
    split
    · rename_i x y e1 e2; exact (aBin_ok hs.m' (evalA_rel ht e1) (evalA_rel ht e2)).next
    · exact NPure.fail
  | unOp op t x =>
    simp only [aOpV, opUn]
    split
    · rename_i x e; exact (aUn_ok hs.m' (evalC_rel ht e)).next
    · exact NPure.fail
  | convert t u x =>
    simp only [aOpV, opConv]
    split
    · rename_i x e; exact (aConv_ok hs.m' (evalC_rel ht e)).next
    · exact NPure.fail
  | slice t x l h m =>
    cases m with
    | some m =>
      cases h with
      | none => exact NPure.fail
      | some h =>
        simp only [aOpV, opSlice3]
        split
        · rename_i x l h m e1 e2 e3 e4; exact lcp_ok (fun z e => aSlice3_ok (evalOpt_rel ht e2) (evalC_rel ht e3) (evalC_rel ht e4) (evalC_rel ht e1) e)
        · exact NPure.fail
    | none =>
      simp only [aOpV, opSlice]
      split
      · rename_i x l h e1 e2 e3; exact lcp_ok (fun z e => aSlice_ok (evalOpt_rel ht e2) (evalOpt_rel ht e3) (evalC_rel ht e1) e)
      · exact NPure.fail
  | fieldAddr t x f =>
    simp only [aOpV, opFieldAddr]
    split
    · rename_i x e; exact lcp_ok (fun z e2 => aFieldAddr_ok (evalC_rel ht e) e2)
    · exact NPure.fail
  | field t x f =>
    simp only [aOpV, opField]
    split
    · rename_i x e; exact lfb_ok hs.m' (fun z e2 => aField_ok (evalA_rel ht e) e2)
    · exact NPure.fail
  | indexAddr t x i =>
    simp only [aOpV, opIndexAddr]
    split
    · rename_i x i e1 e2; exact atIx_ok hs.m' (evalC_rel ht e2) (fun ρ' s' h y' hy => lcp_ok (fun z e => aIndexAddr_ok (CRel.mono h (evalC_rel ht e1)) hy e))
    · exact NPure.fail
  | index t x i =>
    simp only [aOpV, opIndex]
    split
    · rename_i x i e1 e2; exact atIx_ok hs.m' (evalC_rel ht e2) (fun ρ' s' h y' hy => lfp_ok (fun z e => aIndex_ok (ARel.mono h (evalA_rel ht e1)) hy e))
    · exact NPure.fail
  | extract x i =>
    simp only [aOpV, opExtract]
    split
    · rename_i x e; exact lfp_ok (fun z e2 => aExtract_ok (evalO_rel ht e) e2)
    · exact NPure.fail
  | call c =>
    simp only [aOpV, opCall]
    split
    · rename_i hb
      simp [isPure, hb] at hp
    · rename_i hb
      simp [isPure, hb] at hp
    · rename_i b _ _ hb
      split
      · rename_i l e
        have hl := evalAs_rel ht e
        have hx : ∃ consts, execOp a.eval ⟨dst, .call c, ty, pos, after, guard⟩ = builtin b c.argTypes ty consts (c.args.toList.map a.eval).toArray := by
          refine ⟨c.args.map fun | .const _ => true | _ => false, ?_⟩
          rw [map_arr]
          unfold execOp resolve
          simp only [hb]
          rfl
        obtain ⟨consts, hx⟩ := hx
        rw [hx]
        exact aBuiltin_ok hs hl
      · exact NPure.fail
    · exact NPure.fail
  | _ => cases hp
theorem aOpV_ok {ρ : Env} {s : ASt} {a : Act} {w : World} (H : Rel T w0 ρ s a w) (o : Oper) : NOk T w0 P ρ w (execOp a.eval o) (aOpV P s.tmps s.st o.op) := by
  by_cases hp : isPure o.op = true
  · exact (aOpV_pure H o hp).ok H.sr
  have ht := H.tr
  have hs := H.sr
  obtain ⟨dst, op, ty, pos, after, guard⟩ := o
  cases op with
  | alloc t => exact lo_ok (fun z e => aAlloc_ok hs e)
  | box t x =>
    simp only [aOpV, opBox]
    split
    · rename_i x e; exact lo_ok (fun z e2 => aBox_ok hs (evalA_rel ht e) e2)
    · exact NOk.fail
  | buildSlice t n ps =>
    simp only [aOpV, opBuildSlice]
    split
    · rename_i ps e
      have hp := evalPs_rel ht e
      split
      · rename_i k hk
        exact (oneWord_ok hs (vparts := _) (by simpa using hp) hk).next
      · exact lo_ok (fun z e2 => aBuildSlice_ok hs (vparts := _) (by simpa using hp) e2)
    · exact NOk.fail
  | load t x =>
    simp only [aOpV, opLoad]
    split
    · rename_i x e; exact lfbN_ok hs (fun z e2 => aLoad_ok hs (evalC_rel ht e) e2)
    · exact NOk.fail
  | makeFunc fn first caps =>
    cases fn with
    | func f => exact absurd rfl hp
    | _ => exact NOk.fail
  | makeSlice t l c =>
    simp only [aOpV, opMake]
    split
    · rename_i l c e1 e2; exact lo_ok (fun z e => aMakeSlice_ok hs (litC_rel hs.m' (evalC_rel ht e1)) (litC_rel hs.m' (evalC_rel ht e2)) e)
    · exact NOk.fail
  | call c =>
    simp only [aOpV, opCall]
    split
    · rename_i hb
      split
      · rename_i x y e
        have hl := evalAs_rel ht e
        have hx : ∃ vx vy, execOp a.eval ⟨dst, .call c, ty, pos, after, guard⟩ = (do pure (.value (← Builtin.append_ c.argTypes ty #[vx, vy]))) ∧ CRel ρ x vx ∧ CRel ρ y vy := by
          match hm : c.args.toList.map a.eval, hl with
          | [vx, vy], ⟨h1, h2, _⟩ =>
            refine ⟨vx, vy, ?_, h1, h2⟩
            have hma : c.args.map a.eval = #[vx, vy] := by rw [← map_arr, hm]
            unfold execOp resolve
            simp only [hb, hma]
            rfl
        obtain ⟨vx, vy, he, h1, h2⟩ := hx
        rw [he]
        exact lo_ok (fun z e => aAppend_ok hs h1 h2 e)
      · exact NOk.fail
    · rename_i hb
      split
      · rename_i x y e
        have hl := evalAs_rel ht e
        have hx : ∃ vx vy, execOp a.eval ⟨dst, .call c, ty, pos, after, guard⟩ = (do pure (.value (← Builtin.copy_ c.argTypes ty #[vx, vy]))) ∧ CRel ρ x vx ∧ CRel ρ y vy := by
          match hm : c.args.toList.map a.eval, hl with
          | [vx, vy], ⟨h1, h2, _⟩ =>
            refine ⟨vx, vy, ?_, h1, h2⟩
            have hma : c.args.map a.eval = #[vx, vy] := by rw [← map_arr, hm]
            unfold execOp resolve
            simp only [hb, hma]
            rfl
        obtain ⟨vx, vy, he, h1, h2⟩ := hx
        rw [he]
        exact lo_ok (fun z e => aCopy_ok hs h1 h2 e)
      · exact NOk.fail
    · rename_i b hnb hb
      exfalso
      apply hp
      unfold isPure
      simp only [hb]
    · exact NOk.fail
  | _ => first | exact NOk.fail | (exact absurd rfl hp)
end
end Go.Proofs.VM
