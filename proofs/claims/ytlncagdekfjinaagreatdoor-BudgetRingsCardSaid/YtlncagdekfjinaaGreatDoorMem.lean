/- Blocks that are known whole: loads and stores; memory as a list of them. -/
import Derived.Test.YtlncagdekfjinaaGreatDoorRoom
import Derived.Deep.MidRow
import Derived.StillTailTactics
import Derived.WalkLawsBesides
namespace Go.Proofs.YtlncagdekfjinaaGreatDoor
open Go.RowKit
theorem Below.setCells' {B : Nat} {a : World} {b : Nat} : ∀ (vs : List Value) (o : Nat) {w : World}, Below B a w → B ≤ b → Below B a (w.setCells b o vs)
  | [], _, _, h, _ => h
  | v :: r, o, _, h, hB => Below.setCells' r (o + 1) (h.setCell (p := ⟨b, o, none⟩) hB v) hB
def Box (w : World) (g : Nat) (t : TypeId) (cs : Array Value) : Prop := w.heap[g]? = some (.cells cs t (0, 0))
theorem Box.below {w w' : World} {g B : Nat} {t : TypeId} {cs : Array Value} (h : Box w g t cs) (hb : Below B w w') (hg : g < B) : Box w' g t cs := (hb.block g hg).trans h
theorem Box.new (w : World) (t : TypeId) (cs : Array Value) : Box (w.alloc (.cells cs t)) w.heap.size t cs := heap_alloc_new w _
theorem Box.lt {w : World} {g : Nat} {t : TypeId} {cs : Array Value} (h : Box w g t cs) : g < w.heap.size := lt_of_block h
theorem Box.at_ {w : World} {g : Nat} {t : TypeId} {cs : Array Value} (h : Box w g t cs) {i : Nat} {v : Value} (hv : cs[i]? = some v) : w.cell? ⟨g, i, none⟩ = some v := (cell_of_row w g i cs t _ h).trans hv
theorem Box.free {w : World} {g : Nat} {t : TypeId} {cs : Array Value} (h : Box w g t cs) (i : Nat) : w.frozen? ⟨g, i, none⟩ = false := frozen_of_row w g i cs t h
theorem Box.range {w : World} {g : Nat} {t : TypeId} {vs : List Value} (h : Box w g t vs.toArray) : w.rangeAt g 0 vs := fun j v hv => by
  rw [Nat.zero_add]
  exact h.at_ (by simpa using hv)
theorem Box.there {w : World} {g : Nat} {t : TypeId} {cs : Array Value} (h : Box w g t cs) (n : Nat) (hn : n ≤ cs.size) : w.there g 0 n := fun j hj => by
  rw [Nat.zero_add, h.at_ (v := cs[j]'(by omega)) (Array.getElem?_eq_getElem _), h.free]
  exact ⟨rfl, rfl⟩
theorem Box.set {w : World} {g i : Nat} {t : TypeId} {cs : Array Value} (h : Box w g t cs) (v : Value) : Box (w.setCell ⟨g, i, none⟩ v) g t (cs.setIfInBounds i v) := heap_setCell_same w g i cs t v h
theorem Box.other {w : World} {g : Nat} {t : TypeId} {cs : Array Value} (h : Box w g t cs) (a : Addr) (v : Value) (hne : g ≠ a.block) : Box (w.setCell a v) g t cs := (heap_setCell_other w a g v hne).trans h
theorem Box.fill_from {g : Nat} {t : TypeId} : ∀ (vs p q : List Value) (w : World), Box w g t (p ++ q).toArray → q.length = vs.length → Box (w.setCells g p.length vs) g t (p ++ vs).toArray
  | [], p, q, w, h, hl => by
    have : q = [] := List.eq_nil_of_length_eq_zero hl
    subst this
    exact h
  | v :: vs, p, [], w, h, hl => by simp at hl
  | v :: vs, p, x :: q, w, h, hl => by
    have h1 : Box (w.setCell ⟨g, p.length, none⟩ v) g t ((p ++ [v]) ++ q).toArray := by
      have := h.set (i := p.length) v
      have e : ((p ++ x :: q).toArray).setIfInBounds p.length v = ((p ++ [v]) ++ q).toArray := by simp
      rwa [e] at this
    have h2 := Box.fill_from vs (p ++ [v]) q _ h1 (by simpa using hl)
    have e2 : p ++ [v] ++ vs = p ++ v :: vs := by simp
    rw [e2, List.length_append] at h2
    exact h2
theorem Box.fill {w : World} {g : Nat} {t : TypeId} {cs : Array Value} (h : Box w g t cs) (vs : List Value) (hl : cs.size = vs.length) : Box (w.setCells g 0 vs) g t vs.toArray := by
  have h' : Box w g t ([] ++ cs.toList).toArray := by simpa using h
  exact Box.fill_from vs [] cs.toList w h' (by simpa using hl)
theorem heap_setCells_apart {g k : Nat} (hk : k ≠ g) : ∀ (vs : List Value) (o : Nat) (w : World), (w.setCells g o vs).heap[k]? = w.heap[k]?
  | [], _, _ => rfl
  | v :: r, o, w => (heap_setCells_apart hk r (o + 1) _).trans (heap_setCell_other w ⟨g, o, none⟩ k v hk)
theorem Box.kept {w X : World} {g k : Nat} {t : TypeId} {cs : Array Value} (h : Box w k t cs) (hX : ∀ j, j ≠ g → X.heap[j]? = w.heap[j]?) (hk : k ≠ g) : Box X k t cs := (hX k hk).trans h
structure Filled (g : Nat) (t : TypeId) (vs : List Value) (w X : World) : Prop where
  box : Box X g t vs.toArray
  below : ∀ B, B ≤ g → Below B w X
  other : ∀ k, k ≠ g → X.heap[k]? = w.heap[k]?
theorem filled {w : World} {g : Nat} {t : TypeId} {cs : Array Value} (h : Box w g t cs) (vs : List Value) (hl : cs.size = vs.length) : Filled g t vs w (w.setCells g 0 vs) :=
  ⟨h.fill vs hl, fun _ hB => Below.setCells' vs 0 (Below.refl _ _) hB, fun _ hk => heap_setCells_apart hk vs 0 w⟩
theorem Filled.size {g : Nat} {t : TypeId} {vs : List Value} {w X : World} (h : Filled g t vs w X) : w.heap.size ≤ X.heap.size := (h.below 0 (Nat.zero_le _)).size
theorem wpList_box_store {P : Program} {ops : Array Oper} {rest : List Oper} {op : Oper} {a : Act} {w : World} {Q : Exit → Act → World → Prop} (hgd : op.guard = none) (ty : TypeId) (x y : Operand) (ho : op.op = .store ty x y)
    (g : Nat) (hx : a.eval x = .pointer (some ⟨g, 0, none⟩)) (vs : List Value) (hy : a.eval y = .agg vs.toArray) (t : TypeId) (cs : Array Value) (hB : Box w g t cs) (hl : cs.size = vs.length)
    (hi : (P.info? ty).map (·.size) = some vs.length) (h1 : ∀ v ∈ vs, v.oneCell' = true) (h : ∀ X, Filled g t vs w X → wpList P ops Q rest (a.put op.dst undef) X) : wpList P ops Q (op :: rest) a w :=
  wpList_store_mid hgd ty x y ho g 0 vs.toArray hx hy (by rw [List.size_toArray]; exact hB.there _ (by omega)) (by rw [List.size_toArray]; exact hi) (all_oneCell_toArray h1) (h _ (filled hB vs hl))
theorem box_load {P : Program} {w : World} {g : Nat} {t ty : TypeId} {vs : List Value} (d : TypeDesc) (hB : Box w g t vs.toArray) (hu : P.underlying ty = some d) (hd : d.isRow = true) (hi : (P.info? ty).map (·.size) = some vs.length) :
    (loadVar ty ⟨g, 0, none⟩).run P w = .ok (.agg vs.toArray) w := run_loadVar_mid w g 0 ty vs d hB.range hu hd hi
theorem results_cell {P : Program} {fn : Func} {p : Tmp} {ty : TypeId} (h : fn.results = #[.cell p ty]) (tmps : Array Value) (w : World) (a : Addr) (v : Value)
    (hp : tmps.getD p undef = .pointer (some a)) (hl : (loadVar ty a).run P w = .ok v w) : (results fn tmps).run P w = .ok v w := by
  have hp' : tmps[p]?.getD undef = .pointer (some a) := by simpa using hp
  simp [results, h, hp', asAddr, hl]
theorem results_cell_slot {P : Program} {fn : Func} {p q : Tmp} {ty : TypeId} (h : fn.results = #[.cell p ty, .tmp q]) (tmps : Array Value) (w : World) (a : Addr) (v : Value)
    (hp : tmps.getD p undef = .pointer (some a)) (hl : (loadVar ty a).run P w = .ok v w) : (results fn tmps).run P w = .ok (.tuple #[v, tmps.getD q undef]) w := by
  have hp' : tmps[p]?.getD undef = .pointer (some a) := by simpa using hp
  simp [results, h, hp', asAddr, hl]
theorem Box.new' (w : World) (n : Nat) (t : TypeId) (cs : Array Value) (h : w.heap.size = n) : Box (w.alloc (.cells cs t)) n t cs := by subst h; exact Box.new w t cs
theorem Box.at' {w : World} {g b i : Nat} {t : TypeId} {cs : Array Value} {v : Value} (h : Box w g t cs) (hne : g ≠ b) : Box (w.setCell ⟨b, i, none⟩ v) g t cs := h.other _ v hne
theorem below_drew {B : Nat} {a w : World} (h : Below B a w) : Below B a w.drew := ⟨h.os, h.tape, h.output, h.size, h.block⟩
theorem new_then (w : World) (o : Obj) {g : Nat} {t : TypeId} {vs : List Value} {X : World} (h : Filled g t vs (w.alloc o) X) (hg : w.heap.size ≤ g := by exact Nat.le_refl _) : Below w.heap.size w X :=
  ((Below.refl _ _).alloc (Nat.le_refl _) o).trans (h.below _ hg)
structure Mem (w W : World) (L : List (Nat × TypeId × List Value)) : Prop where
  d : Below w.heap.size w W
  b : ∀ (i g : Nat) (t : TypeId) (vs : List Value), L[i]? = some (g, t, vs) → Box W g t vs.toArray ∧ w.heap.size ≤ g
theorem Mem.call {w W W' : World} {L : List (Nat × TypeId × List Value)} (h : Mem w W L) (hb : Below W.heap.size W W') : Mem w W' L :=
  ⟨h.d.trans (hb.mono h.d.size), fun i g t vs e => ⟨(h.b i g t vs e).1.below hb (h.b i g t vs e).1.lt, (h.b i g t vs e).2⟩⟩
theorem Mem.drew {w W : World} {L : List (Nat × TypeId × List Value)} (h : Mem w W L) : Mem w W.drew L := ⟨below_drew h.d, fun i g t vs e => h.b i g t vs e⟩
theorem Mem.put {w W : World} {L : List (Nat × TypeId × List Value)} {g : Nat} {t : TypeId} {vs : List Value} (h : Mem w W L) (hb : Box W g t vs.toArray) (hg : w.heap.size ≤ g) : Mem w W ((g, t, vs) :: L) :=
  ⟨h.d, fun i g' t' vs' e => by
    cases i with
    | zero =>
      simp only [List.getElem?_cons_zero, Option.some.injEq, Prod.mk.injEq] at e
      obtain ⟨rfl, rfl, rfl⟩ := e
      exact ⟨hb, hg⟩
    | succ i => exact h.b i g' t' vs' (by simpa using e)⟩
theorem Mem.fresh {w W X : World} {L : List (Nat × TypeId × List Value)} {t : TypeId} {vs : List Value} {o : Obj} (h : Mem w W L) (hX : Filled W.heap.size t vs (W.alloc o) X) : Mem w X ((W.heap.size, t, vs) :: L) :=
  (h.call (new_then W o hX)).put hX.box h.d.size
theorem Mem.new {w W : World} {L : List (Nat × TypeId × List Value)} (h : Mem w W L) (t : TypeId) (vs : List Value) : Mem w (W.alloc (.cells vs.toArray t)) ((W.heap.size, t, vs) :: L) :=
  (h.call ((Below.refl _ _).alloc (Nat.le_refl _) _)).put (Box.new _ _ _) h.d.size
theorem Mem.new' {w W : World} {L : List (Nat × TypeId × List Value)} (h : Mem w W L) {n : Nat} (hn : W.heap.size = n) (t : TypeId) (vs : List Value) : Mem w (W.alloc (.cells vs.toArray t)) ((n, t, vs) :: L) := by subst hn; exact h.new t vs
theorem Mem.start (w : World) : Mem w w [] := ⟨Below.refl _ _, fun i g t vs e => by cases e⟩
theorem Mem.box {w W : World} {L : List (Nat × TypeId × List Value)} (h : Mem w W L) {i g : Nat} {t : TypeId} {vs : List Value} (e : L[i]? = some (g, t, vs)) : Box W g t vs.toArray := (h.b i g t vs e).1
theorem Mem.set {w W : World} {L : List (Nat × TypeId × List Value)} {g j : Nat} {t : TypeId} {vs us : List Value} {v : Value} (h : Mem w W L) (hb : Box W g t vs.toArray) (hg : w.heap.size ≤ g) (e : vs.toArray.setIfInBounds j v = us.toArray)
    (hne : ∀ (i g' : Nat) (t' : TypeId) (vs' : List Value), L[i]? = some (g', t', vs') → g' ≠ g) : Mem w (W.setCell ⟨g, j, none⟩ v) ((g, t, us) :: L) :=
  ⟨h.d.setCell (p := ⟨g, j, none⟩) hg _, (Mem.put (w := w) (W := W.setCell ⟨g, j, none⟩ v) ⟨h.d.setCell (p := ⟨g, j, none⟩) hg _, fun i g' t' vs' e' => ⟨(h.b i g' t' vs' e').1.at' (hne i g' t' vs' e'), (h.b i g' t' vs' e').2⟩⟩ (by rw [← e]; exact hb.set v) hg).b⟩
end Go.Proofs.YtlncagdekfjinaaGreatDoor
