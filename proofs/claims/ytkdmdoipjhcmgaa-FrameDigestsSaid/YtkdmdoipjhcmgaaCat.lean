/- slices.Concat of two lists of bytes. -/
import Derived.Test.YtkdmdoipjhcmgaaTime
import Derived.Test.YtkdmdoipjhcmgaaPut
import Derived.Lib.AppendZerosOnto
import Derived.Laws.AppendOwnNone
import Derived.LoopN
namespace Go.Proofs.Ytkdmdoipjhcmgaa
open Go.RowKit

section
variable {P : Program}
/-- An append whose run is known. -/
theorem wpList_append_run {ops : Array Oper} {rest : List Oper} {o : Oper} {a : Act} {w : World} {Q : Exit → Act → World → Prop} (hg : o.guard = none) (s x : Operand) (t u : TypeId)
    (hop : o.op = .call { callee := .builtin .append, args := #[s, x], argTypes := #[t, u] }) (vs vx v : Value) (w' : World) (hs : a.eval s = vs) (hx : a.eval x = vx)
    (hrun : (Builtin.append_ #[t, u] o.type #[vs, vx]).run P w = .ok v w') (hK : wpList P ops Q rest (a.put o.dst v) w') : wpList P ops Q (o :: rest) a w := by
  refine wpList_plain hg fun K hK' => ?_
  unfold Oper.wp
  simp [execOp, hop, resolve, invoke, builtin, hs, hx, hrun, Result.andThen]
  exact hK' _ _ hK
end

set_option maxRecDepth 100000 in
/-- A slice without bytes, of new memory or nil. -/
theorem grow_any (base n : Nat) (w : World) (hb : base ≤ w.heap.size) (hn : n ≤ 4000) :
    Calls Try.prog 51 #[.slice none 0 0, .int .i64 n] w (PutPost base 0 [] w) := by
  obtain ⟨i0, hi, hz0, hz1, hz2⟩ := info_parts info_u8
  by_cases h0 : n = 0
  · subst h0
    go_enter Try.func51, Try.ntmps51
    go_wp2
    go_ret
    exact ⟨_, rfl, World.ownsRow_nil .., Below.refl _ _⟩
  · have hp : (0 : Int) < n := by omega
    have hp2 : ¬ (n : Int) < 0 := by omega
    have hcg := grownCap_ge w n 0 5
    have hcm := grownCap_le_maxLen w n 0 5 (by unfold maxLen; omega)
    have hrun := Lib.run_append_grow_zeros (P := Try.prog) w 46 3 46 5 i0 (.int .u8 0) .i64 .i64 Try.underlying46 Try.underlying3 hi hz0 none 0 0 [] (run_firstCells_none _ _ _ _ _) n (by omega) (by omega) (by omega) (by omega) (by rw [hz2]; omega) (by rw [hz2, Nat.zero_add, nextslicecap_zero (by omega)]; omega)
    rw [Nat.zero_add] at hrun
    clear h0
    go_enter Try.func51, Try.ntmps51
    go_wp2_with (refine wpList_append_run rfl _ _ 46 3 rfl (.slice none 0 0) (.int .i64 n) _ _ rfl rfl hrun ?_)
    go_ret
    refine ⟨_, rfl, ⟨by simp, .inr ⟨w.heap.size, _, _, rfl, hb, heap_alloc_new w.drew _, Nat.zero_le _, hcm, ?_, by simp⟩⟩, (Below.refl _ _).drew.alloc hb _⟩
    have h2 : ∀ k, (Builtin.zeroCells #[Value.int .u8 0] k).size = k := fun k => by simp [Builtin.zeroCells]
    simp only [Array.size_append, h2]
    omega

/-- The bytes of a slice that is nil or lies in memory. -/
def Given8 (w : World) (a : Option Addr) (cap : Nat) (l : List Nat) : Prop := BytesAt w a l ∧ (a = none → l = [] ∧ cap = 0)
theorem Given8.mono {w w' : World} {a : Option Addr} {cap : Nat} {l : List Nat} (h : Given8 w a cap l) (hb : Below w.heap.size w w') : Given8 w' a cap l := ⟨h.1.mono hb, h.2⟩

/-- An append of such a slice. -/
theorem wpList_append_given {ops : Array Oper} {rest : List Oper} {o : Oper} {a : Act} {w : World} {Q : Exit → Act → World → Prop} (hg : o.guard = none) (s x : Operand)
    (hop : o.op = .call { callee := .builtin .append, args := #[s, x], argTypes := #[46, 46] })
    (base : Nat) (v : Value) (n : Nat) (xs : List Nat) (hs : a.eval s = v) (hown : w.ownsRow base 5 1 v n (xs.map byt)) (hb : base ≤ w.heap.size) (ad : Option Addr) (m cap : Nat) (l : List Nat) (hm : l.length = m)
    (hx : a.eval x = .slice ad m cap) (hl : Given8 w ad cap l) (hn : n + m ≤ 100000)
    (hK : ∀ v' w', w'.ownsRow base 5 1 v' (n + m) ((xs ++ l).map byt) → Below base w w' → wpList Try.prog ops Q rest (a.put o.dst v') w') : wpList Try.prog ops Q (o :: rest) a w := by
  obtain ⟨i0, hi, hz0, hz1, hz2⟩ := info_parts info_u8
  subst hm
  cases ad with
  | none =>
    obtain ⟨hl0, hc0⟩ := hl.2 rfl
    subst hl0 hc0
    refine wpList_append_own_none hg s x 46 hop base 5 i0 1 Try.underlying46 hi v n _ hs hown hx ?_
    exact hK v w (by simpa using hown) (Below.refl _ _)
  | some p =>
    refine wpList_append_own _ hg s x 46 hop base 5 i0 (.int .u8 0) 1 1 Try.underlying46 hi hz0 hz1 hz2 rfl (by decide) v n _ hs hown p l.length cap (l.map byt) hx (by simp) ?_ ?_ (by unfold maxLen; omega) (by omega) hb ?_
    · intro j u hj
      have hjl : j < l.length := by
        have := (List.getElem?_eq_some_iff.1 hj).1
        simpa using this
      obtain ⟨q, e, _, hc⟩ := hl.1.2 (by omega)
      cases e
      rw [hc j hjl]
      simpa [List.getD, hjl] using hj
    · intro u hu
      obtain ⟨z, _, rfl⟩ := List.mem_map.1 hu
      rfl
    · intro v' w' h1 h2 _
      exact hK v' w' (by simpa using h1) ((Below.refl _ _).grown h2 hb (fun j hj => (hown.lt j hj).1))

set_option maxHeartbeats 1000000 in
set_option maxRecDepth 100000 in
theorem concat_any (b : Nat) (a1 a2 : Option Addr) (c1 c2 : Nat) (l m : List Nat) (n1 n2 : Nat) (h1 : l.length = n1) (h2 : m.length = n2) (hn1 : n1 ≤ 1000) (hn2 : n2 ≤ 1000) (w : World) (hb : b < w.heap.size)
    (hc1 : w.cell? ⟨b, 0, none⟩ = some (.slice a1 n1 c1)) (hc2 : w.cell? ⟨b, 1, none⟩ = some (.slice a2 n2 c2)) (hg1 : Given8 w a1 c1 l) (hg2 : Given8 w a2 c2 m) :
    Calls Try.prog 15 #[.slice (some ⟨b, 0, none⟩) 2 2] w (PutPost w.heap.size (n1 + n2) (l ++ m) w) := by
  have H1 := Lib.hid h1
  have H2 := Lib.hid h2
  clear h1 h2
  go_enter Try.func15, Try.ntmps15
  go_wp2_with fail
  refine wp_loop_rounds 3 ?_
  rw [rounds_succ]
  go_wp2_with fail
  rw [rounds_succ]
  go_wp2_with fail
  rw [rounds_succ]
  go_wp2_with fail
  refine (grow_any w.heap.size (n1 + n2) w (Nat.le_refl _) (by omega)).mono ?_
  rintro e w1 ⟨v1, rfl, ho1, hb1⟩
  have k1 := (bcell hb1).1 b 0 hb
  have k2 := (bcell hb1).1 b 1 hb
  rw [hc1] at k1
  rw [hc2] at k2
  go_wp2_with fail
  refine wp_loop_rounds 3 ?_
  rw [rounds_succ]
  go_wp2_with (refine wpList_append_given rfl _ _ rfl w.heap.size v1 0 [] rfl ho1 hb1.size a1 n1 c1 l H1.out rfl (hg1.mono hb1) (by omega) ?_)
  intro v2 w2 ho2 hb2
  have hb3 := hb1.trans hb2
  have k3 := (bcell hb3).1 b 1 hb
  rw [hc2] at k3
  clear k1 k2 ho1 hb2
  go_wp2_with fail
  rw [rounds_succ]
  go_wp2_with (refine wpList_append_given rfl _ _ rfl w.heap.size v2 n1 l rfl ho2 hb3.size a2 n2 c2 m H2.out rfl (hg2.mono hb3) (by omega) ?_)
  intro v3 w3 ho3 hb4
  have hb5 := hb3.trans hb4
  clear k3 ho2 hb4
  go_wp2_with fail
  rw [rounds_succ]
  go_wp2_with fail
  go_ret
  exact ⟨v3, rfl, by rw [List.map_append]; exact ho3, hb5⟩
end Go.Proofs.Ytkdmdoipjhcmgaa
