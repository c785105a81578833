/- Rows of numbers as arguments: a start over them, and what the laid data say of them. -/
import Derived.Test.YtlncagdekfjinaaGreatDoorVmC
namespace Go.Proofs.VM
open Go.RowKit Go.ChangeShapes Go.WideShapes
noncomputable section
variable {T : FT} {w0 : World} {P : Program}
inductive ArgB where
  | num (a : Arg) | nil | row (ks : List IntKind) (n : Nat) | long (n : Nat)
def ArgB.nI : ArgB → Nat
  | .num a => a.ks.length
  | .nil => 0
  | .row ks n => (rep ks n).length + 1
  | .long _ => 2
def ArgB.nB : ArgB → Nat
  | .row _ _ | .long _ => 1
  | _ => 0
def ArgB.rs : ArgB → List (Int × Int)
  | .num a => a.ks.map fun k => (k.min, k.max)
  | .nil => []
  | .row ks n => ((n : Int), 9223372036854775807) :: (rep ks n).map fun k => (k.min, k.max)
  | .long n => [((n : Int), 9223372036854775807), ((n : Int), 9223372036854775807)]
def ArgB.av : ArgB → Nat → Nat → AV
  | .num a, i, _ => a.av i
  | .nil, _, _ => .c .nsl
  | .row _ n, i, j => .c (.sr j 0 n i 0)
  | .long _, i, j => .c (.su j i)
def ArgB.bl : ArgB → Nat → List (List CV)
  | .row ks n, i => [ivs (rep ks n) (i + 1)]
  | .long _, _ => [[]]
  | _, _ => []
def ArgB.isV (w : World) : ArgB → Value → Prop
  | .num a, v => a.isV v
  | .nil, v => v = .slice none 0 0
  | .row ks n, v => ∃ g o c us, v = .slice (some ⟨g, o, none⟩) n c ∧ n ≤ c ∧ c ≤ 9223372036854775807 ∧ All2 IntOf (rep ks n) us ∧ w.rangeAt g o us ∧ (us ≠ [] → g < w.heap.size)
  | .long n, v => ∃ g o m c, v = .slice (some ⟨g, o, none⟩) m c ∧ n ≤ m ∧ m ≤ c ∧ c ≤ 9223372036854775807
def AtI (ρ : Env) (i : Nat) (ns : List Int) : Prop := ∀ (k : Nat) x, ns[k]? = some x → ρ.m.I[i + k]? = some x
def AtB (ρ : Env) (j : Nat) (bl : List (Nat × Nat)) : Prop := ∀ (k : Nat) y, bl[k]? = some y → ρ.blk (j + k) = some y
theorem AtI.app {ρ : Env} {i : Nat} {a b : List Int} (h : AtI ρ i (a ++ b)) : AtI ρ i a ∧ AtI ρ (i + a.length) b :=
  ⟨fun k x e => h k x (by rw [List.getElem?_append_left (List.getElem?_eq_some_iff.1 e).1]; exact e),
   fun k x e => by rw [Nat.add_assoc]; exact h (a.length + k) x (by rw [List.getElem?_append_right (Nat.le_add_right _ _), Nat.add_sub_cancel_left]; exact e)⟩
theorem AtB.app {ρ : Env} {i : Nat} {a b : List (Nat × Nat)} (h : AtB ρ i (a ++ b)) : AtB ρ i a ∧ AtB ρ (i + a.length) b :=
  ⟨fun k x e => h k x (by rw [List.getElem?_append_left (List.getElem?_eq_some_iff.1 e).1]; exact e),
   fun k x e => by rw [Nat.add_assoc]; exact h (a.length + k) x (by rw [List.getElem?_append_right (Nat.le_add_right _ _), Nat.add_sub_cancel_left]; exact e)⟩
section
variable {H : Type} {enc : TypeId × Value → H} {w : World} {base : Nat} {spare : Nat → Bool} {held : Bool}
theorem okWide_slice {r : Reach} {b0 : Nat} {t e : TypeId} {v : Value} (ht : P.underlying t = some (.slice e)) (h : Value.okWide P w r b0 t v) :
    v = .slice none 0 0 ∨ ∃ g o n c, v = .slice (some ⟨g, o, none⟩) n c ∧ n ≤ c ∧ c ≤ 9223372036854775807 ∧ g < w.heap.size := by
  simp only [Value.okWide, ht] at h
  unfold Cell.okWide at h
  rw [ht] at h
  unfold Cell.ok at h
  rw [ht] at h
  cases v with
  | slice a n c =>
    cases a with
    | none =>
      match n, c, h with
      | 0, 0, _ => exact .inl rfl
    | some a =>
      obtain ⟨h1, h2, h3⟩ := h
      obtain ⟨_, h4, row, cells, h5, _⟩ := h3
      obtain ⟨g, o, s⟩ := a
      have h4 : s = none := h4
      subst h4
      have h2 : (c : Int) ≤ 9223372036854775807 := h2
      refine .inr ⟨g, o, n, c, rfl, h1, by omega, ?_⟩
      unfold World.shape? at h5
      split at h5
      · rename_i hg; exact (Array.getElem?_eq_some_iff.1 hg).1
      · cases h5
  | _ => exact h.elim
theorem rangeAt_app {w : World} {g o : Nat} {a b : List Value} (h1 : w.rangeAt g o a) (h2 : w.rangeAt g (o + a.length) b) : w.rangeAt g o (a ++ b) := fun j v hv => by
  by_cases hj : j < a.length
  · rw [List.getElem?_append_left hj] at hv; exact h1 j v hv
  · rw [List.getElem?_append_right (by omega)] at hv
    have := h2 (j - a.length) v hv
    rwa [show o + a.length + (j - a.length) = o + j by omega] at this
theorem elems_range {e : TypeId} {ks : List IntKind} (hk : kindsOf P 5 e = some ks) (hz : ks.length = P.cellsOf e) {g o n : Nat} {fuel : Nat} {elems : List (DataW H × List MemPlace)} (hl : elems.length = n)
    (h : ∀ i, i < n → (w.cells? base ((⟨g, o, none⟩ : Addr).add (i * P.cellsOf e)) (P.cellsOf e)).bind (DataW.trod enc P w base spare held fuel e) = elems[i]?) :
    ∀ (m i : Nat), i + m = n → ∃ us, All2 IntOf (rep ks m) us ∧ w.rangeAt g (o + i * P.cellsOf e) us
  | 0, _, _ => ⟨[], trivial, fun j v hv => (nomatch hv)⟩
  | m + 1, i, hi => by
    obtain ⟨us, h1, h2⟩ := elems_range hk hz hl h m (i + 1) (by omega)
    have h3 := h i (by omega)
    obtain ⟨x, hx⟩ : ∃ x, elems[i]? = some x := ⟨_, List.getElem?_eq_getElem (by omega)⟩
    rw [hx] at h3
    obtain ⟨vs, h4, h5⟩ := Option.bind_eq_some_iff.1 h3
    have h6 := kinds_all2 5 e hk h5
    have hvl : vs.length = P.cellsOf e := by rw [← hz]; exact (All2.length h6).symm
    refine ⟨vs ++ us, All2.snoc h6 h1, rangeAt_app (fun j v hv => ?_) ?_⟩
    · have h7 := World.cells?_some h4
      have hj : j < P.cellsOf e := by rw [← hvl]; exact (List.getElem?_eq_some_iff.1 hv).1
      have h8 := h7.2.2 j hj
      rw [hv, Go.WideShapes.add_plain, Go.WideShapes.add_plain] at h8
      exact h8
    · rw [hvl, show o + i * P.cellsOf e + P.cellsOf e = o + (i + 1) * P.cellsOf e by rw [Nat.succ_mul]; omega]
      exact h2
theorem slice_isV {r : Reach} {b0 : Nat} {t e : TypeId} {ks : List IntKind} {v : Value} {d : DataW H} {ps : List MemPlace} (ht : P.underlying t = some (.slice e)) (hk : kindsOf P 5 e = some ks) (hz : ks.length = P.cellsOf e)
    (hval : Value.okWide P w r b0 t v) (hd : DataW.Trod enc P w base spare held t v d ps) (N : Nat) : ∃ a : ArgB, a.isV w v ∧ (a = .nil ∨ a = .long N ∨ ∃ n, n < N ∧ a = .row ks n) := by
  rcases okWide_slice ht hval with rfl | ⟨g, o, n, c, rfl, h1, h2, h3⟩
  · exact ⟨.nil, rfl, .inl rfl⟩
  · by_cases hn : n < N
    · obtain ⟨fuel, hf⟩ := hd
      rcases DataW.trod_slice ht hf with ⟨h0, _⟩ | ⟨a, len, cap, elems, rest, m, _, hcs, _, _, _, _, hlen, hel, _⟩
      · have := List.head_eq_of_cons_eq h0; cases this
      · have h0 := List.head_eq_of_cons_eq hcs
        cases h0
        obtain ⟨us, h4, h5⟩ := elems_range hk hz hlen hel n 0 (by omega)
        rw [Nat.zero_mul, Nat.add_zero] at h5
        exact ⟨.row ks n, ⟨g, o, c, us, rfl, h1, h2, h4, h5, fun _ => h3⟩, .inr (.inr ⟨n, hn, rfl⟩)⟩
    · exact ⟨.long N, ⟨g, o, n, c, rfl, by omega, h1, h2⟩, .inr (.inl rfl)⟩
inductive Par where
  | num (a : Arg) | sl (ks : List IntKind) (N : Nat)
def parOf (P : Program) (N : Nat) (t : TypeId) : Option Par := match P.underlying t with
  | some (.slice e) => match kindsOf P 5 e with
    | some ks => match Nat.beq ks.length (P.cellsOf e) with
      | true => some (.sl ks N)
      | false => none
    | none => none
  | _ => (argOf P t).map .num
def parsOf (P : Program) : List Nat → List TypeId → Option (List Par)
  | _, [] => some []
  | N :: Ns, t :: ts => match parOf P N t, parsOf P Ns ts with
    | some p, some l => some (p :: l)
    | _, _ => none
  | [], _ :: _ => none
end
end
end Go.Proofs.VM
