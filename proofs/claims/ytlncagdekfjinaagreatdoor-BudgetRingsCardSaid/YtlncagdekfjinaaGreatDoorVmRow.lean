/- Rows whose laid tables are read: what the hypothesis gives. -/
import Derived.Test.YtlncagdekfjinaaGreatDoorVmC
import Derived.Test.YtlncagdekfjinaaGreatDoorVmOf
import Derived.Test.YtlncagdekfjinaaGreatDoorTie
import Derived.ChangeSame
import Derived.ChangeVars
import Derived.JoinedOf
import Derived.RowKit
import Derived.RowKitTokens
import Derived.LaidLaws
import Derived.Stop.LaidErr
import Derived.Lib.LaidTab
import Derived.SevenTiedAt
import Derived.Test.YtlncagdekfjinaaGreatDoorLaw
import Derived.Test.YtlncagdekfjinaaGreatDoorCards
namespace Go.Proofs.YtlncagdekfjinaaGreatDoor
open Go.ChangeShapes Go.WideShapes Go.RowKit
def laid3 : List (String × DataW Unit) := [("math/bits.deBruijn32tab", Rows.laid_math_bits_deBruijn32tab), ("math/bits.deBruijn64tab", Rows.laid_math_bits_deBruijn64tab), ("internal/strconv.uint64pow10", Rows.laid_internal_strconv_uint64pow10)]
theorem tabNamed : Tryz.prog.globalNamed "math/bits.deBruijn64tab" = some 2 := by kernel_rfl
theorem tabType : (Tryz.prog.globals[2]?).map (·.type) = some 293 := by kernel_rfl
theorem cellsTab : Tryz.prog.cellsOf 293 = 64 := by kernel_rfl
theorem cellsByte : Tryz.prog.cellsOf 5 = 1 := by kernel_rfl
theorem mapM_some {α β : Type} {f : α → Option β} : ∀ {l : List α} {xs : List β}, l.mapM f = some xs → ∀ {i : Nat} {x : α}, l[i]? = some x → ∃ y, xs[i]? = some y ∧ f x = some y
  | [], xs, _, i, x, e => by simp at e
  | a :: l, xs, h, i, x, e => by
    rw [List.mapM_cons] at h
    simp only [Option.bind_eq_bind, Option.bind_eq_some_iff, Option.pure_def, Option.some.injEq] at h
    obtain ⟨y, hy, ys, hys, rfl⟩ := h
    cases i with
    | zero =>
      simp at e
      subst e
      exact ⟨y, rfl, hy⟩
    | succ i =>
      obtain ⟨z, h1, h2⟩ := mapM_some hys (i := i) (x := x) (by simpa using e)
      exact ⟨z, by simpa using h1, h2⟩
theorem int_of_trod {H : Type} {enc : TypeId × Value → H} {P : Program} {w : World} {base : Nat} {sp : Nat → Bool} {held : Bool} {fuel : Nat} {t : TypeId} {k : IntKind} {c : Value} {y : DataW H × List MemPlace}
    (ht : P.underlying t = some (.int k)) (h : DataW.trod enc P w base sp held fuel t [c] = some y) : ∃ n, c = .int k n ∧ y = (.lit (.int k n), []) := by
  cases fuel with
  | zero => simp [DataW.trod] at h
  | succ fuel =>
    cases c <;> simp [DataW.trod, ht] at h
    rename_i k' n
    obtain ⟨⟨rfl, _⟩, rfl⟩ := h
    exact ⟨n, rfl, rfl⟩
theorem laid64_eq : Rows.laid_math_bits_deBruijn64tab (H := Unit) = .agg (Lib.deBruijn64tab.map fun n : Nat => .lit (.int .u8 (n : Int))) := by kernel_rfl
theorem env_of_laid {W : World} (h : laidMetH Tryz.prog laid3 W) : Env W := by
  have h : laidMet Tryz.prog laid3 W := h
  obtain ⟨ps, ⟨_, _, _, _, _, _, _, _, _, _, ⟨g, t, cs, fuel, p, q, hg, ht, hvar, hd, _, _⟩, _⟩, _⟩ := h
  obtain rfl := Option.some.inj (tabNamed.symm.trans hg)
  obtain rfl := Option.some.inj (tabType.symm.trans ht)
  obtain ⟨l⟩ := cs
  cases fuel with
  | zero => simp [DataW.trod] at hd
  | succ fuel =>
    simp only [DataW.trod, Tryz.underlying293, cellsTab, cellsByte] at hd
    split at hd
    · rename_i hl
      obtain ⟨xs, hxs, hx⟩ := Option.map_eq_some_iff.1 hd
      rw [laid64_eq] at hx
      simp only [Prod.mk.injEq, DataW.agg.injEq] at hx
      have key : ∀ j, j < Lib.deBruijn64tab.length → W.cell? ⟨2, j, none⟩ = some (.int .u8 (Lib.deBruijn64tab.getD j 0 : Nat)) := by
        intro j hj
        have hj64 : j < 64 := hj
        obtain ⟨y, hy, hf⟩ := mapM_some hxs (i := j) (x := j) (by rw [List.getElem?_range hj64])
        have hjl : j < l.length := by omega
        have e : List.take 1 (List.drop (j * 1) l) = [l[j]] := by
          rw [Nat.mul_one, List.drop_eq_getElem_cons hjl]
          rfl
        rw [e] at hf
        obtain ⟨n, hn, rfl⟩ := int_of_trod Tryz.underlying5 hf
        have h2 : (xs.map (·.1))[j]? = some (.lit (.int .u8 n)) := by rw [List.getElem?_map, hy]; rfl
        rw [hx.1, List.getElem?_map, List.getElem?_eq_getElem hj] at h2
        simp only [Option.map_some, Option.some.injEq, DataW.lit.injEq] at h2
        have h3 : W.cell? ⟨2, j, none⟩ = l[j]? := (World.var?_cell hg hvar j).trans (by simp)
        rw [h3, List.getElem?_eq_getElem hjl, hn, List.getD_eq_getElem?_getD, List.getElem?_eq_getElem hj]
        congr 1
        injection h2 with _ h2
        rw [← h2]; rfl
      exact ⟨key, block_lt_of_cell (key 0 (by decide))⟩
    · cases hd
theorem powNamed : Tryz.prog.globalNamed "internal/strconv.uint64pow10" = some 4 := by kernel_rfl
theorem powType : (Tryz.prog.globals[4]?).map (·.type) = some 297 := by kernel_rfl
theorem pow_eq : Rows.laid_internal_strconv_uint64pow10 (H := Unit) = Lib.tabData .u64 Lib.pow10Tab := by kernel_rfl
theorem env2_of_laid {W : World} (h : laidMetH Tryz.prog laid3 W) : Env2 W := by
  refine ⟨env_of_laid h, ?_⟩
  have h : laidMet Tryz.prog laid3 W := h
  have h2 := (h.tail).tail
  rw [pow_eq] at h2
  exact Lib.tabIs_of_head powNamed powType Tryz.underlying297 Tryz.underlying167 (by kernel_rfl) (by kernel_rfl) h2
def litCells (d : DataW Unit) : Array Value := match d with
  | .agg l => (l.map fun x => match x with
    | .lit (.int k n) => Value.int k n
    | _ => .bool false).toArray
  | _ => #[]
def putIn (cs : Array Value) : Obj → Obj
  | .cells _ t frozen => .cells cs t frozen
  | o => o
noncomputable def laidWorld (os : Os) : World :=
  { World.holding Tryz.prog os ⟨#[], #[], []⟩ with heap := (((World.holding Tryz.prog os ⟨#[], #[], []⟩).heap.modify 2 (putIn (litCells Rows.laid_math_bits_deBruijn64tab))).modify ((Tryz.prog.globalNamed "math/bits.deBruijn32tab").getD 0) (putIn (litCells Rows.laid_math_bits_deBruijn32tab))).modify ((Tryz.prog.globalNamed "internal/strconv.uint64pow10").getD 0) (putIn (litCells Rows.laid_internal_strconv_uint64pow10)) }
theorem laidWorld_met (os : Os) (args : Array Value) : laidMetH Tryz.prog laid3 ((laidWorld os).forCall (fun _ _ => 0) ⟨#[], args, []⟩).memory :=
  show laidMet Tryz.prog laid3 _ from laidMet_of_run' 8 (by kernel_rfl) (by kernel_rfl)
theorem wf16 {n : Int} (h : (Lit.int .u16 n).wf = true) : 0 ≤ n ∧ n ≤ 65535 := by
  simp only [Lit.wf, Bool.and_eq_true, decide_eq_true_eq] at h
  have h1 : IntKind.u16.min = 0 := rfl
  have h2 : IntKind.u16.max = 65535 := rfl
  omega
theorem trodAll_len {H : Type} {enc : TypeId × Value → H} {P : Program} {w : World} {base : Nat} {sp : Nat → Bool} {held : Bool} : ∀ {ts : List TypeId} {vs : List Value} {ds : List (DataW H)} {ps : List MemPlace}, DataW.TrodAll enc P w base sp held ts vs ds ps → ds.length = ts.length
  | [], vs, ds, ps, h => by obtain ⟨_, rfl, _⟩ := trodAll_nil h; rfl
  | t :: ts, vs, ds, ps, h => by
    obtain ⟨v, vs1, d, ds1, p, q, rfl, rfl, rfl, h1, h2⟩ := trodAll_cons h
    simp [trodAll_len h2]
end Go.Proofs.YtlncagdekfjinaaGreatDoor
