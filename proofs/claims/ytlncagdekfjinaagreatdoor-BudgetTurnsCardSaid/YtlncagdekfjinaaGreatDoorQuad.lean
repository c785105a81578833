/- The memory of (limbs).common: two numbers, and two slices to be written over, in four blocks. -/
import Derived.Test.YtlncagdekfjinaaGreatDoorDistance
import Derived.Test.YtlncagdekfjinaaGreatDoorLehmer
namespace Go.Proofs.YtlncagdekfjinaaGreatDoor
open Go.RowKit Go.Sort Dg
def Apart2 (a b : Option Addr) : Prop := ∀ c d, a = some c → b = some d → c.block ≠ d.block
theorem Apart2.symm {a b : Option Addr} (h : Apart2 a b) : Apart2 b a := fun c d hc hd e => h d c hd hc e.symm
theorem Apart2.nil (a : Option Addr) : Apart2 a none := fun _ _ _ h => nomatch h
theorem Apart2.lt {a b : Option Addr} {n : Nat} (ha : ∀ c, a = some c → c.block < n) (hb : ∀ c, b = some c → n ≤ c.block) : Apart2 a b :=
  fun c d hc hd e => by have := ha c hc; have := hb d hd; omega
theorem Room.old {w : World} {base : Nat} {a : Option Addr} {cap : Nat} (h : Room w base a cap) : ∀ c, a = some c → c.block < w.heap.size := by
  intro c hc
  rcases h with ⟨h, _⟩ | ⟨g, cur, e, _, hh, _⟩
  · rw [h] at hc; cases hc
  · rw [e] at hc; cases hc; exact (Array.getElem?_eq_some_iff.1 hh).1
theorem Room.new {w : World} {base : Nat} {a : Option Addr} {cap : Nat} (h : Room w base a cap) : ∀ c, a = some c → base ≤ c.block := by
  intro c hc
  rcases h with ⟨h, _⟩ | ⟨g, cur, e, hb, hh, _⟩
  · rw [h] at hc; cases hc
  · rw [e] at hc; cases hc; exact hb
structure Quad (w : World) (base : Nat) (a b s t : Option Addr) (ca cb cs ct X Y : Nat) : Prop where
  x : DigsAt w a (nl X) ca X
  y : DigsAt w b (nl Y) cb Y
  rx : Room w base a ca
  ry : Room w base b cb
  rs : Room w base s cs
  rt : Room w base t ct
  ab : Apart2 a b
  as_ : Apart2 a s
  at_ : Apart2 a t
  bs : Apart2 b s
  bt : Apart2 b t
  st : Apart2 s t
  base_ : base ≤ w.heap.size
theorem Quad.mono {w w' : World} {base : Nat} {a b s t : Option Addr} {ca cb cs ct X Y : Nat} (h : Quad w base a b s t ca cb cs ct X Y) (hb : Below w.heap.size w w') : Quad w' base a b s t ca cb cs ct X Y :=
  ⟨h.x.mono hb, h.y.mono hb, h.rx.mono hb, h.ry.mono hb, h.rs.mono hb, h.rt.mono hb, h.ab, h.as_, h.at_, h.bs, h.bt, h.st, Nat.le_trans h.base_ hb.size⟩
theorem Quad.divided {w w' : World} {base : Nat} {a b s t : Option Addr} {ca cb cs ct X Y : Nat} (h : Quad w base a b s t ca cb cs ct X Y) (hb : Below w.heap.size w w') {r : Option Addr} {cr R : Nat}
    (hd : DigsAt w' r (nl R) cr R) (hr : Room w' w.heap.size r cr) : Quad w' base b r s t cb cr cs ct Y R :=
  ⟨h.y.mono hb, hd, h.ry.mono hb, hr.low h.base_, h.rs.mono hb, h.rt.mono hb, .lt h.ry.old hr.new, h.bs, h.bt, (Apart2.lt h.rs.old hr.new).symm, (Apart2.lt h.rt.old hr.new).symm, h.st, Nat.le_trans h.base_ hb.size⟩
def Lands (w : World) (s : Option Addr) (g : Nat) : Prop := (∃ d, s = some d ∧ d.block = g) ∨ w.heap.size ≤ g
theorem Lands.apart {w : World} {base : Nat} {s c : Option Addr} {cc g : Nat} (h : Lands w s g) (hc : Room w base c cc) (hs : Apart2 c s) : Apart2 c (some ⟨g, 0, none⟩) := by
  intro d e hd he
  cases he
  show d.block ≠ g
  rcases h with ⟨k, hk, rfl⟩ | h
  · exact hs d k hd hk
  · have := hc.old d hd; omega
theorem Quad.first {w w' : World} {base : Nat} {a b s t : Option Addr} {ca cb cs ct X Y : Nat} (h : Quad w base a b s t ca cb cs ct X Y) {g : Nat} (hb : But g w w') (hl : Lands w s g) :
    DigsAt w' a (nl X) ca X ∧ DigsAt w' b (nl Y) cb Y ∧ Room w' base a ca ∧ Room w' base b cb ∧ Room w' base t ct ∧ Apart2 a (some ⟨g, 0, none⟩) ∧ Apart2 b (some ⟨g, 0, none⟩) ∧ Apart2 t (some ⟨g, 0, none⟩) ∧ base ≤ w'.heap.size := by
  have ha := hl.apart h.rx h.as_
  have hb' := hl.apart h.ry h.bs
  have ht := hl.apart h.rt h.st.symm
  exact ⟨hb.digs h.x fun c hc _ => ha c _ hc rfl, hb.digs h.y fun c hc _ => hb' c _ hc rfl, h.rx.but hb fun c hc => ha c _ hc rfl, h.ry.but hb fun c hc => hb' c _ hc rfl, h.rt.but hb fun c hc => ht c _ hc rfl, ha, hb', ht, Nat.le_trans h.base_ hb.size⟩
theorem Quad.both {w w' w2 : World} {base : Nat} {a b s t : Option Addr} {ca cb cs ct X Y : Nat} (h : Quad w base a b s t ca cb cs ct X Y) {g cg G : Nat} (hb : But g w w') (hl : Lands w s g)
    (hd : DigsAt w' (some ⟨g, 0, none⟩) (nl G) cg G) (hr : Room w' base (some ⟨g, 0, none⟩) cg) {k ck K : Nat} (hb2 : But k w' w2) (hl2 : Lands w' t k)
    (hd2 : DigsAt w2 (some ⟨k, 0, none⟩) (nl K) ck K) (hr2 : Room w2 base (some ⟨k, 0, none⟩) ck) :
    Quad w2 base (some ⟨g, 0, none⟩) (some ⟨k, 0, none⟩) a b cg ck ca cb G K := by
  obtain ⟨_, _, r1, r2, r3, p1, p2, p3, p4⟩ := h.first hb hl
  have q1 := hl2.apart hr p3.symm
  have q2 := hl2.apart r1 h.at_
  have q3 := hl2.apart r2 h.bt
  exact ⟨hb2.digs hd fun c hc _ => q1 c _ hc rfl, hd2, hr.but hb2 fun c hc => q1 c _ hc rfl, hr2, r1.but hb2 fun c hc => q2 c _ hc rfl, r2.but hb2 fun c hc => q3 c _ hc rfl, q1, p1.symm, p2.symm, q2.symm, q3.symm, h.ab, Nat.le_trans p4 hb2.size⟩
theorem Room.ge {w : World} {base g cap : Nat} (h : Room w base (some ⟨g, 0, none⟩) cap) : base ≤ g := h.new _ rfl
theorem But.cell {g : Nat} {w w' : World} (h : But g w w') {b o : Nat} {v : Value} (hc : w.cell? ⟨b, o, none⟩ = some v) (hg : b ≠ g) : w'.cell? ⟨b, o, none⟩ = some v :=
  (World.cell?_of_block (w := w) (a := ⟨b, o, none⟩) (h.block b (block_lt_of_cell hc) hg)).trans hc
def FarPost (w : World) (base : Nat) (s : Option Addr) (F : Nat) (e : Ending) (w' : World) : Prop :=
  ∃ g cap, e = .returned (.slice (some ⟨g, 0, none⟩) (nl F) cap) ∧ DigsAt w' (some ⟨g, 0, none⟩) (nl F) cap F ∧ Room w' base (some ⟨g, 0, none⟩) cap ∧ Lands w s g ∧ But g w w'
theorem dist1 {w : World} {base : Nat} {a b s t : Option Addr} {ca cb cs ct X Y : Nat} (h : Quad w base a b s t ca cb cs ct X Y) (ns : Nat) (hns : ns ≤ cs) (hlX : nl X ≤ 68719476730) (hYX : nl Y ≤ nl X) (u v : Nat) (hu : u < B) (hv : v < B) :
    Calls Tryz.prog 184 #[.slice s ns cs, .slice a (nl X) ca, .slice b (nl Y) cb, .agg #[u64 u, u64 v]] w (FarPost w base s (far X Y u v)) :=
  distance_any base s ns cs a b ca cb X Y u v w h.rs h.base_ hns h.x h.y hlX hYX hu hv h.as_ h.bs
theorem dist2 {w w' : World} {base : Nat} {a b s t : Option Addr} {ca cb cs ct X Y : Nat} (h : Quad w base a b s t ca cb cs ct X Y) {g : Nat} (hb : But g w w') (hl : Lands w s g) (nt : Nat) (hnt : nt ≤ ct) (hlX : nl X ≤ 68719476730) (hYX : nl Y ≤ nl X) (u v : Nat) (hu : u < B) (hv : v < B) :
    Calls Tryz.prog 184 #[.slice t nt ct, .slice a (nl X) ca, .slice b (nl Y) cb, .agg #[u64 u, u64 v]] w' (FarPost w' base t (far X Y u v)) := by
  obtain ⟨r1, r2, _, _, r5, _, _, _, r9⟩ := h.first hb hl
  exact distance_any base t nt ct a b ca cb X Y u v w' r5 r9 hnt r1 r2 hlX hYX hu hv h.at_ h.bt
theorem Lands.ne {w : World} {s : Option Addr} {g h : Nat} (hl : Lands w s g) (hs : ∀ c, s = some c → c.block < h) (hw : h + 2 ≤ w.heap.size) : h ≠ g ∧ h + 1 ≠ g := by
  rcases hl with ⟨d, hd, rfl⟩ | hl
  · have := hs d hd; omega
  · omega
def Four (h f1 f2 l1 l2 : Nat) (w : World) : Prop :=
  w.cell? ⟨h, 0, none⟩ = some (u64 f1) ∧ w.cell? ⟨h, 1, none⟩ = some (u64 f2) ∧ w.cell? ⟨h + 1, 0, none⟩ = some (u64 l1) ∧ w.cell? ⟨h + 1, 1, none⟩ = some (u64 l2)
theorem Four.but {h f1 f2 l1 l2 g : Nat} {w w' : World} (hf : Four h f1 f2 l1 l2 w) (hb : But g w w') (hn : h ≠ g ∧ h + 1 ≠ g) : Four h f1 f2 l1 l2 w' :=
  ⟨hb.cell hf.1 hn.1, hb.cell hf.2.1 hn.1, hb.cell hf.2.2.1 hn.2, hb.cell hf.2.2.2 hn.2⟩
end Go.Proofs.YtlncagdekfjinaaGreatDoor
