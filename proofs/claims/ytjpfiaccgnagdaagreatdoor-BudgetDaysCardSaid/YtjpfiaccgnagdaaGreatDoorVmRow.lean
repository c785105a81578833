/- Rows whose laid tables are read: what the hypothesis gives. -/
import Derived.Test.YtjpfiaccgnagdaaGreatDoorVmC
import Derived.Test.YtjpfiaccgnagdaaGreatDoorVmOf
import Derived.Test.YtjpfiaccgnagdaaGreatDoorTie
import Derived.ChangeSame
import Derived.ChangeVars
import Derived.JoinedOf
import Derived.RowKit
import Derived.RowKitTokens
import Derived.LaidLaws
import Derived.Stop.LaidErr
import Derived.Lib.LaidTab
import Derived.SevenTiedAt
import Derived.Test.YtjpfiaccgnagdaaGreatDoorLaw
import Derived.Test.YtjpfiaccgnagdaaGreatDoorCards
namespace Go.Proofs.YtjpfiaccgnagdaaGreatDoor
open Go.ChangeShapes Go.WideShapes Go.RowKit
def laid3 : List (String × DataW Unit) := [("math/bits.deBruijn32tab", Rows.laid_math_bits_deBruijn32tab), ("math/bits.deBruijn64tab", Rows.laid_math_bits_deBruijn64tab), ("internal/strconv.uint64pow10", Rows.laid_internal_strconv_uint64pow10)]
theorem tabNamed : Tryz.prog.globalNamed "math/bits.deBruijn64tab" = some 0 := by kernel_rfl
theorem tabType : (Tryz.prog.globals[0]?).map (·.type) = some 269 := by kernel_rfl
theorem cellsTab : Tryz.prog.cellsOf 269 = 64 := by kernel_rfl
theorem cellsByte : Tryz.prog.cellsOf 5 = 1 := by kernel_rfl
theorem mapM_some {α β : Type} {f : α → Option β} : ∀ {l : List α} {xs : List β}, l.mapM f = some xs → ∀ {i : Nat} {x : α}, l[i]? = some x → ∃ y, xs[i]? = some y ∧ f x = some y
  | [], xs, _, i, x, e => by simp at e
  | a :: l, xs, h, i, x, e => by
    rw [List.mapM_cons] at h
    simp only [Option.bind_eq_bind, Option.bind_eq_some_iff, Option.pure_def, Option.some.injEq] at h
    obtain ⟨y, hy, ys, hys, rfl⟩ := h
    cases i with
    | zero =>
      simp at e
      subst e
      exact ⟨y, rfl, hy⟩
    | succ i =>
      obtain ⟨z, h1, h2⟩ := mapM_some hys (i := i) (x := x) (by simpa using e)
      exact ⟨z, by simpa using h1, h2⟩
theorem int_of_trod {H : Type} {enc : TypeId × Value → H} {P : Program} {w : World} {base : Nat} {sp : Nat → Bool} {held : Bool} {fuel : Nat} {t : TypeId} {k : IntKind} {c : Value} {y : DataW H × List MemPlace}
    (ht : P.underlying t = some (.int k)) (h : DataW.trod enc P w base sp held fuel t [c] = some y) : ∃ n, c = .int k n ∧ y = (.lit (.int k n), []) := by
  cases fuel with
  | zero => simp [DataW.trod] at h
  | succ fuel =>
    cases c <;> simp [DataW.trod, ht] at h
    rename_i k' n
    obtain ⟨⟨rfl, _⟩, rfl⟩ := h
    exact ⟨n, rfl, rfl⟩
theorem laid64_eq : Rows.laid_math_bits_deBruijn64tab (H := Unit) = .agg (Lib.deBruijn64tab.map fun n : Nat => .lit (.int .u8 (n : Int))) := by kernel_rfl
theorem env_of_laid {W : World} (h : laidMetH Tryz.prog laid3 W) : Env W := by
  have h : laidMet Tryz.prog laid3 W := h
  obtain ⟨ps, ⟨_, _, _, _, _, _, _, _, _, _, ⟨g, t, cs, fuel, p, q, hg, ht, hvar, hd, _, _⟩, _⟩, _⟩ := h
  obtain rfl := Option.some.inj (tabNamed.symm.trans hg)
  obtain rfl := Option.some.inj (tabType.symm.trans ht)
  obtain ⟨l⟩ := cs
  cases fuel with
  | zero => simp [DataW.trod] at hd
  | succ fuel =>
    simp only [DataW.trod, Tryz.underlying269, cellsTab, cellsByte] at hd
    split at hd
    · rename_i hl
      obtain ⟨xs, hxs, hx⟩ := Option.map_eq_some_iff.1 hd
      rw [laid64_eq] at hx
      simp only [Prod.mk.injEq, DataW.agg.injEq] at hx
      have key : ∀ j, j < Lib.deBruijn64tab.length → W.cell? ⟨0, j, none⟩ = some (.int .u8 (Lib.deBruijn64tab.getD j 0 : Nat)) := by
        intro j hj
        have hj64 : j < 64 := hj
        obtain ⟨y, hy, hf⟩ := mapM_some hxs (i := j) (x := j) (by rw [List.getElem?_range hj64])
        have hjl : j < l.length := by omega
        have e : List.take 1 (List.drop (j * 1) l) = [l[j]] := by
          rw [Nat.mul_one, List.drop_eq_getElem_cons hjl]
          rfl
        rw [e] at hf
        obtain ⟨n, hn, rfl⟩ := int_of_trod Tryz.underlying5 hf
        have h2 : (xs.map (·.1))[j]? = some (.lit (.int .u8 n)) := by rw [List.getElem?_map, hy]; rfl
        rw [hx.1, List.getElem?_map, List.getElem?_eq_getElem hj] at h2
        simp only [Option.map_some, Option.some.injEq, DataW.lit.injEq] at h2
        have h3 : W.cell? ⟨0, j, none⟩ = l[j]? := (World.var?_cell hg hvar j).trans (by simp)
        rw [h3, List.getElem?_eq_getElem hjl, hn, List.getD_eq_getElem?_getD, List.getElem?_eq_getElem hj]
        congr 1
        injection h2 with _ h2
        rw [← h2]; rfl
      exact ⟨key, block_lt_of_cell (key 0 (by decide))⟩
    · cases hd
theorem powNamed : Tryz.prog.globalNamed "internal/strconv.uint64pow10" = some 4 := by kernel_rfl
theorem powType : (Tryz.prog.globals[4]?).map (·.type) = some 287 := by kernel_rfl
theorem pow_eq : Rows.laid_internal_strconv_uint64pow10 (H := Unit) = Lib.tabData .u64 Lib.pow10Tab := by kernel_rfl
theorem env2_of_laid {W : World} (h : laidMetH Tryz.prog laid3 W) : Env2 W := by
  refine ⟨env_of_laid h, ?_⟩
  have h : laidMet Tryz.prog laid3 W := h
  have h2 := (h.tail).tail
  rw [pow_eq] at h2
  exact Lib.tabIs_of_head powNamed powType Tryz.underlying287 Tryz.underlying22 (by kernel_rfl) (by kernel_rfl) h2
def litCells (d : DataW Unit) : Array Value := match d with
  | .agg l => (l.map fun x => match x with
    | .lit (.int k n) => Value.int k n
    | _ => .bool false).toArray
  | _ => #[]
def putIn (cs : Array Value) : Obj → Obj
  | .cells _ t frozen => .cells cs t frozen
  | o => o
/-- A world that meets the condition: the settled one, the tables laid. -/
noncomputable def laidWorld (os : Os) : World :=
  { World.holding Tryz.prog os ⟨#[], #[], []⟩ with heap := (((World.holding Tryz.prog os ⟨#[], #[], []⟩).heap.modify 0 (putIn (litCells Rows.laid_math_bits_deBruijn64tab))).modify ((Tryz.prog.globalNamed "math/bits.deBruijn32tab").getD 0) (putIn (litCells Rows.laid_math_bits_deBruijn32tab))).modify ((Tryz.prog.globalNamed "internal/strconv.uint64pow10").getD 0) (putIn (litCells Rows.laid_internal_strconv_uint64pow10)) }
theorem laidWorld_met (os : Os) (args : Array Value) : laidMetH Tryz.prog laid3 ((laidWorld os).forCall (fun _ _ => 0) ⟨#[], args, []⟩).memory :=
  show laidMet Tryz.prog laid3 _ from laidMet_of_run' 8 (by kernel_rfl) (by kernel_rfl)
theorem wf16 {n : Int} (h : (Lit.int .u16 n).wf = true) : 0 ≤ n ∧ n ≤ 65535 := by
  simp only [Lit.wf, Bool.and_eq_true, decide_eq_true_eq] at h
  have h1 : IntKind.u16.min = 0 := rfl
  have h2 : IntKind.u16.max = 65535 := rfl
  omega
theorem trodAll_len {H : Type} {enc : TypeId × Value → H} {P : Program} {w : World} {base : Nat} {sp : Nat → Bool} {held : Bool} : ∀ {ts : List TypeId} {vs : List Value} {ds : List (DataW H)} {ps : List MemPlace}, DataW.TrodAll enc P w base sp held ts vs ds ps → ds.length = ts.length
  | [], vs, ds, ps, h => by obtain ⟨_, rfl, _⟩ := trodAll_nil h; rfl
  | t :: ts, vs, ds, ps, h => by
    obtain ⟨v, vs1, d, ds1, p, q, rfl, rfl, rfl, h1, h2⟩ := trodAll_cons h
    simp [trodAll_len h2]
set_option maxRecDepth 100000 in
/-- A law over plain numbers holds where what its cut tree asks does. -/
theorem law_contract {call : VM.CallF} (hc : VM.COk ft Tryz.prog md call) {f : FuncId} {fn : Func} {s : ChangeSpec} {t : TypeId} (n : Nat) {al : List VM.Arg} {ex : Bool}
    (hpar : fn.params.toList.mapM (VM.argOf Tryz.prog) = some al) (hpok : ∀ t ∈ fn.params.toList, Tryz.prog.readableRec t = true ∧ t < Tryz.prog.types.size) (hv : s.vars = []) (hres : fn.resultTypes = #[t]) (ht : Tryz.prog.underlying t = some .bool)
    (hn : fn.params.toList.length = n) (hfn : ∀ (H : Type) (ds : List (DataW H)), ds.length = n → s.fn H ds = { results := [.lit (.bool true)], args := ds })
    (hr : ∀ L : List Int, VM.All2 (fun (r : Int × Int) (n : Int) => r.1 ≤ n ∧ n ≤ r.2) (VM.rngsOf al) L → ∃ R K r, VM.All2 (fun (r : Int × Int) (n : Int) => r.1 ≤ n ∧ n ≤ r.2) R L ∧ R.length ≤ VM.FU ∧ VM.KOk (VM.valX L) R.length K ∧ VM.simp ex (call f (VM.avsOf al 0) (VM.stOf R)).ans (VM.ssK R K) = r ∧ r.ok (VM.valX L))
    (H : Type) (enc : TypeId × Value → H) (W : World) (base : Nat) (args : Array Value) (ds gs : List (DataW H)) (before : List MemPlace)
    (hval : ∀ (j : Nat) t v, fn.params[j]? = some t → args[j]? = some v → Value.okWide Tryz.prog W .any base t v)
    (hW : DataW.Whole enc Tryz.prog fn.params.toList s.vars false W args.toList ds gs before) (hL : laidMetH Tryz.prog laid3 W) :
    Calls Tryz.prog f args W fun e W' => ∃ v, e = .returned v ∧ s.post enc Tryz.prog fn false true false false W args v W' := by
  have hW' := hW
  obtain ⟨p, q, hA0, hV, rfl, hfz, hnd⟩ := hW
  have hA : DataW.TrodAll enc Tryz.prog W 0 (fun _ => true) true fn.params.toList args.toList ds p := hA0
  rw [hv] at hV
  obtain ⟨rfl, rfl⟩ := trodVars_none hV
  have hisV := VM.args_isV hpar (fun j t v e1 e2 => hval j t v (by simpa using e1) (by simpa using e2)) hA
  obtain ⟨L, h1, h2⟩ := VM.args_rel (L0 := []) hisV
  have hav := h2 []
  simp only [List.nil_append, List.append_nil, List.length_nil] at hav
  obtain ⟨R, K, r, hR, hle, hKR⟩ := hr L h1
  have hs : VM.SRel ft W (VM.env0 L) (VM.stOf R) W := VM.SRel.start (T := ft) (env2_of_laid hL) hR
  have yes := VM.yes_of_rtK hc hR hs hav hle ⟨K, r, hKR⟩
  rw [Array.toArray_toList] at yes
  refine yes.mono fun e W' ⟨he, hb⟩ => ⟨_, he, ?_⟩
  simp only [List.append_nil] at hW'
  exact post_true laidOut hpok hv hres ht hW' (by rw [List.append_nil]; exact hfn H ds (by rw [trodAll_len hA, hn])) hb
end Go.Proofs.YtjpfiaccgnagdaaGreatDoor
