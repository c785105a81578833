/- Blocks: the reference's bytes: put, get, what is not a number; blocks that are known whole. -/
import Derived.Test.YtjahaljdfpengaaSealM
namespace Go.Proofs.Ytjahaljdfpengaa
open Go.RowKit
def putAt (l : List Nat) (i : Nat) (q : List Nat) : List Nat := l.take i ++ q ++ l.drop (i + q.length)
theorem putAt_len {l : List Nat} {i : Nat} {q : List Nat} (h : i + q.length ≤ l.length) : (putAt l i q).length = l.length := by simp [putAt]; omega
theorem putAt_nil (l : List Nat) (i : Nat) : putAt l i [] = l := by simp [putAt]
theorem putAt_snoc (l q : List Nat) (i x : Nat) (h : i + q.length < l.length) : putAt l i (q ++ [x]) = (putAt l i q).set (i + q.length) x := by
  unfold putAt
  have h1 : (l.take i).length = i := by simp; omega
  have h2 : (l.take i ++ q).length = i + q.length := by simp [h1]
  rw [List.set_append_right _ _ (by rw [h2]; exact Nat.le_refl _), h2, Nat.sub_self, List.drop_eq_getElem_cons h, List.set_cons_zero]
  simp [Nat.add_assoc]
/-- Blocks that are known whole: a load and a store of the whole row; nothing else is said of the world behind it. -/
theorem Box.range {w : World} {g : Nat} {t : TypeId} {vs : List Value} (h : Box w g t vs.toArray) : w.rangeAt g 0 vs := fun j v hv => by
  rw [Nat.zero_add]
  exact h.at_ (by simpa using hv)
theorem Box.there {w : World} {g : Nat} {t : TypeId} {cs : Array Value} (h : Box w g t cs) (n : Nat) (hn : n ≤ cs.size) : w.there g 0 n := fun j hj => by
  rw [Nat.zero_add, h.at_ (v := cs[j]'(by omega)) (Array.getElem?_eq_getElem _), h.free]
  exact ⟨rfl, rfl⟩
theorem Box.set {w : World} {g i : Nat} {t : TypeId} {cs : Array Value} (h : Box w g t cs) (v : Value) : Box (w.setCell ⟨g, i, none⟩ v) g t (cs.setIfInBounds i v) := heap_setCell_same w g i cs t v h
theorem Box.other {w : World} {g : Nat} {t : TypeId} {cs : Array Value} (h : Box w g t cs) (a : Addr) (v : Value) (hne : g ≠ a.block) : Box (w.setCell a v) g t cs := (heap_setCell_other w a g v hne).trans h
theorem Box.fill_from {g : Nat} {t : TypeId} : ∀ (vs p q : List Value) (w : World), Box w g t (p ++ q).toArray → q.length = vs.length → Box (w.setCells g p.length vs) g t (p ++ vs).toArray
  | [], p, q, w, h, hl => by
    have : q = [] := List.eq_nil_of_length_eq_zero hl
    subst this
    exact h
  | v :: vs, p, [], w, h, hl => by simp at hl
  | v :: vs, p, x :: q, w, h, hl => by
    have h1 : Box (w.setCell ⟨g, p.length, none⟩ v) g t ((p ++ [v]) ++ q).toArray := by
      have := h.set (i := p.length) v
      have e : ((p ++ x :: q).toArray).setIfInBounds p.length v = ((p ++ [v]) ++ q).toArray := by simp
      rwa [e] at this
    have h2 := Box.fill_from vs (p ++ [v]) q _ h1 (by simpa using hl)
    have e2 : p ++ [v] ++ vs = p ++ v :: vs := by simp
    rw [e2, List.length_append] at h2
    exact h2
theorem Box.fill {w : World} {g : Nat} {t : TypeId} {cs : Array Value} (h : Box w g t cs) (vs : List Value) (hl : cs.size = vs.length) : Box (w.setCells g 0 vs) g t vs.toArray := by
  have h' : Box w g t ([] ++ cs.toList).toArray := by simpa using h
  exact Box.fill_from vs [] cs.toList w h' (by simpa using hl)
theorem heap_setCells_apart {g k : Nat} (hk : k ≠ g) : ∀ (vs : List Value) (o : Nat) (w : World), (w.setCells g o vs).heap[k]? = w.heap[k]?
  | [], _, _ => rfl
  | v :: r, o, w => (heap_setCells_apart hk r (o + 1) _).trans (heap_setCell_other w ⟨g, o, none⟩ k v hk)
theorem Box.kept {w X : World} {g k : Nat} {t : TypeId} {cs : Array Value} (h : Box w k t cs) (hX : ∀ j, j ≠ g → X.heap[j]? = w.heap[j]?) (hk : k ≠ g) : Box X k t cs := (hX k hk).trans h
/-- Behind a store of a whole block. -/
structure Filled (g : Nat) (t : TypeId) (vs : List Value) (w X : World) : Prop where
  box : Box X g t vs.toArray
  below : ∀ B, B ≤ g → Below B w X
  other : ∀ k, k ≠ g → X.heap[k]? = w.heap[k]?
theorem filled {w : World} {g : Nat} {t : TypeId} {cs : Array Value} (h : Box w g t cs) (vs : List Value) (hl : cs.size = vs.length) : Filled g t vs w (w.setCells g 0 vs) :=
  ⟨h.fill vs hl, fun _ hB => Below.setCells' vs 0 (Below.refl _ _) hB, fun _ hk => heap_setCells_apart hk vs 0 w⟩
theorem Filled.size {g : Nat} {t : TypeId} {vs : List Value} {w X : World} (h : Filled g t vs w X) : w.heap.size ≤ X.heap.size := (h.below 0 (Nat.zero_le _)).size
theorem wpList_box_store {P : Program} {ops : Array Oper} {rest : List Oper} {op : Oper} {a : Act} {w : World} {Q : Exit → Act → World → Prop} (hgd : op.guard = none) (ty : TypeId) (x y : Operand) (ho : op.op = .store ty x y)
    (g : Nat) (hx : a.eval x = .pointer (some ⟨g, 0, none⟩)) (vs : List Value) (hy : a.eval y = .agg vs.toArray) (t : TypeId) (cs : Array Value) (hB : Box w g t cs) (hl : cs.size = vs.length)
    (hi : (P.info? ty).map (·.size) = some vs.length) (h1 : ∀ v ∈ vs, v.oneCell' = true) (h : ∀ X, Filled g t vs w X → wpList P ops Q rest (a.put op.dst undef) X) : wpList P ops Q (op :: rest) a w :=
  wpList_store_mid hgd ty x y ho g 0 vs.toArray hx hy (by rw [List.size_toArray]; exact hB.there _ (by omega)) (by rw [List.size_toArray]; exact hi) (all_oneCell_toArray h1) (h _ (filled hB vs hl))
theorem wpList_box_load {P : Program} {ops : Array Oper} {rest : List Oper} {op : Oper} {a : Act} {w : World} {Q : Exit → Act → World → Prop} (hgd : op.guard = none) (ty : TypeId) (x : Operand) (ho : op.op = .load ty x)
    (g : Nat) (hx : a.eval x = .pointer (some ⟨g, 0, none⟩)) (t : TypeId) (vs : List Value) (d : TypeDesc) (hB : Box w g t vs.toArray) (hu : P.underlying ty = some d) (hd : d.isRow = true) (hi : (P.info? ty).map (·.size) = some vs.length)
    (h : wpList P ops Q rest (a.put op.dst (.agg vs.toArray)) w) : wpList P ops Q (op :: rest) a w :=
  wpList_load_mid hgd ty x ho g 0 hx vs d hB.range hu hd hi h
theorem box_load {P : Program} {w : World} {g : Nat} {t ty : TypeId} {vs : List Value} (d : TypeDesc) (hB : Box w g t vs.toArray) (hu : P.underlying ty = some d) (hd : d.isRow = true) (hi : (P.info? ty).map (·.size) = some vs.length) :
    (loadVar ty ⟨g, 0, none⟩).run P w = .ok (.agg vs.toArray) w := run_loadVar_mid w g 0 ty vs d hB.range hu hd hi
theorem results_cell {P : Program} {fn : Func} {p : Tmp} {ty : TypeId} (h : fn.results = #[.cell p ty]) (tmps : Array Value) (w : World) (a : Addr) (v : Value)
    (hp : tmps.getD p undef = .pointer (some a)) (hl : (loadVar ty a).run P w = .ok v w) : (results fn tmps).run P w = .ok v w := by
  have hp' : tmps[p]?.getD undef = .pointer (some a) := by simpa using hp
  simp [results, h, hp', asAddr, hl]
/-- Lists of bytes as cells. -/
theorem byt_one (l : List Nat) : ∀ v ∈ l.map byt, v.oneCell' = true := fun v hv => by
  obtain ⟨n, _, rfl⟩ := List.mem_map.1 hv
  rfl
theorem map_set (l : List Nat) (i x : Nat) : (((l.map byt).toArray).setIfInBounds i (byt x)) = ((l.set i x).map byt).toArray := by simp [List.map_set]
theorem byte_at {l : List Nat} {i : Nat} (h : i < l.length) : (l.map byt).toArray[i]? = some (byt (l.getD i 0)) := by simp [List.getD, h]
theorem infoB {n : Nat} (h : n = 40) : (Try.prog.info? 27).map (·.size) = some n := by subst h; kernel_rfl
theorem infoR {n : Nat} (h : n = 40) : (Try.prog.info? 31).map (·.size) = some n := by subst h; kernel_rfl
theorem shr8 (n k : Nat) : (n : Int) / 2 ^ (8 * k) % 256 = ((n / 256 ^ k % 256 : Nat) : Int) := by
  have e : ((n : Int) / 2 ^ (8 * k)) = ((n / 256 ^ k : Nat) : Int) := by
    rw [Int.natCast_ediv, Int.natCast_pow, show ((256 : Nat) : Int) = 2 ^ 8 from rfl, ← Int.pow_mul]
  rw [e, Int.natCast_emod]
  rfl
set_option maxRecDepth 100000 in
theorem refPut_any (l : List Nat) (i m n : Nat) (hl : l.length = 40) (him : i + m ≤ 40) (hm : m ≤ 8) (w : World) :
    Calls Try.prog 74 #[.agg (l.map byt).toArray, .int .i64 i, .int .i64 m, .int .u64 (n : Int)] w fun e w' =>
      e = .returned (.agg ((putAt l i (le m n)).map byt).toArray) ∧ Below w.heap.size w w' := by
  have hvl : (l.map byt).length = 40 := by rw [List.length_map, hl]
  have HL := Lib.hid hl
  have HB := Lib.hid (Box.new w 31 (l.map byt).toArray)
  have hP : putAt l i (le 0 n) = l := putAt_nil l i
  have HP := Lib.hid hP
  clear hl hP
  generalize hvs : (l.map byt) = vs at *
  have HVS := Lib.hid hvs
  clear hvs
  go_enter Try.func74, Try.ntmps74
  go_wp2
  go_loopw [9] (fun x wr => ∃ k : Nat, k ≤ m ∧ x = .int .i64 k ∧ Box wr w.heap.size 31 ((putAt l i (le k n)).map byt).toArray ∧ Box wr (w.heap.size + 1) 31 (Array.replicate 40 (.int .u8 0)) ∧ Below w.heap.size w wr) (fun x _ => m - (intOf x).toNat)
  case atStart => exact ⟨0, Nat.zero_le _, rfl, by rw [HP.out, HVS.out]; exact HB.out.below ((Below.refl _ _).alloc (Nat.le_refl _) _) (by simp), heap_alloc2_new w _ _, ((Below.refl _ _).alloc (Nat.le_refl _) _).alloc (by simp) _⟩
  case round =>
    obtain ⟨k, hk, rfl, hB, hR, hb⟩ := hrel
    by_cases hlt : k < m
    · have hpl : (putAt l i (le k n)).length = 40 := by rw [putAt_len (by rw [le_len, HL.out]; omega), HL.out]
      have hc := hB.at_ (i := i + k) (byte_at (by rw [hpl]; omega))
      have hf := hB.free (i + k)
      have hH := Lib.hid hB
      have HS := Lib.hid (putAt_snoc l (le k n) i (n / 256 ^ k % 256) (by rw [le_len, HL.out]; omega))
      clear hB hpl
      go_wp2
      go_roundw
      case rel =>
        refine ⟨k + 1, by omega, by go_num, ?_, hR.other _ _ (by simp), hb.setCell (Nat.le_refl _) _⟩
        rw [le_snoc, HS.out, le_len, ← map_set, shr8]
        exact hH.out.set _
      case measure => simp [intOf]; omega
    · obtain rfl : k = m := by omega
      have hpl : (putAt l i (le k n)).length = 40 := by rw [putAt_len (by rw [le_len, HL.out]; omega), HL.out]
      have hin := infoR (n := ((putAt l i (le k n)).map byt).length) (by rw [List.length_map, hpl])
      have hsz : (Array.replicate 40 (Value.int .u8 0)).size = ((putAt l i (le k n)).map byt).length := by rw [List.length_map, hpl]; simp
      generalize hr : putAt l i (le k n) = r at *
      have HR := Lib.hid hr
      clear hr
      have Hsz := Lib.hid hsz
      have Hin := Lib.hid hin
      clear hin hpl hsz
      go_wp2_with (first | (refine wpList_box_load rfl 31 _ rfl w.heap.size rfl _ _ _ hB Try.underlying31 rfl Hin.out ?_) | (refine wpList_box_store rfl 31 _ _ rfl (w.heap.size + 1) rfl _ rfl _ _ hR Hsz.out Hin.out (byt_one _) ?_; intro X hX))
      exact bodyPost_ret (v := .agg (r.map byt).toArray) (results_cell Try.results74 _ _ _ _ rfl (box_load _ hX.box Try.underlying31 rfl Hin.out)) rfl ⟨by rw [HR.out], hb.trans (hX.below _ (by omega))⟩

set_option maxRecDepth 100000 in
theorem refGet_any (l : List Nat) (i m : Nat) (hl : l.length = 40) (hlt : ∀ x ∈ l, x < 256) (him : i + m ≤ 40) (hm : m ≤ 8) (w : World) :
    Calls Try.prog 79 #[.agg (l.map byt).toArray, .int .i64 i, .int .i64 m] w fun e w' =>
      e = .returned (.int .u64 (nat l i m : Int)) ∧ Below w.heap.size w w' := by
  have hB := Box.new w 31 (l.map byt).toArray
  have HL := Lib.hid hl
  have hcl : (cut l i m).length = m := cut_len (by omega)
  have hcx := cut_lt hlt i m
  have hca : ∀ k, k < m → l.getD (i + k) 0 = (cut l i m).getD k 0 := fun k hk => by
    have h1 : i + k < l.length := by omega
    have h2 : k < (cut l i m).length := by omega
    simp only [List.getD, List.getElem?_eq_getElem h1, List.getElem?_eq_getElem h2, Option.getD_some]
    simp [cut]
  have HCL := Lib.hid hcl
  have HCA := Lib.hid hca
  clear hl hcl hca
  go_enter Try.func79, Try.ntmps79
  go_wp2
  go_loop [7, 8] (fun h x => ∃ k : Nat, k ≤ m ∧ x = .int .i64 k ∧ h = .int .u64 (num ((cut l i m).take k) : Int)) (fun _ x => m - (intOf x).toNat)
  case atStart => exact ⟨0, Nat.zero_le _, rfl, rfl⟩
  case round =>
    obtain ⟨k, hk, rfl, rfl⟩ := hrel
    by_cases hlt2 : k < m
    · have hkl : k < (cut l i m).length := by rw [HCL.out]; exact hlt2
      have hc := hB.at_ (i := i + k) (byte_at (by rw [HL.out]; omega))
      rw [HCA.out k hlt2] at hc
      have hx : (cut l i m).getD k 0 < 256 := hcx _ (by rw [List.getD, List.getElem?_eq_getElem hkl]; simp)
      have ha : num ((cut l i m).take k) < 256 ^ k := by
        have := num_lt ((cut l i m).take k) fun x hx => hcx x (List.mem_of_mem_take hx)
        rwa [List.length_take, Nat.min_eq_left (by omega)] at this
      have H := Lib.hid (num_take (cut l i m) k hkl)
      generalize num ((cut l i m).take k) = h at *
      generalize (cut l i m).getD k 0 = x at *
      have HA := Lib.hid ha
      clear ha
      go_wp2
      go_round
      case rel => exact ⟨k + 1, by omega, by go_num, by rw [H.out, get_step h x k (by omega) HA.out hx]⟩
      case measure => simp [intOf]; omega
    · go_wp2
      go_ret
      exact ⟨ret_int (by rw [List.take_of_length_le (by rw [HCL.out]; omega)]; rfl), (Below.refl _ _).alloc (Nat.le_refl _) _⟩

theorem nan_any (v : Nat) (hv : v < 4294967296) (w : World) : Calls Try.prog 80 #[.int .u32 (v : Int)] w fun e w' => e = .returned (.bool (nanB v)) ∧ w = w' := by
  have e1 : bits .and .u32 (v : Int) 2139095040 = ((v &&& 2139095040 : Nat) : Int) := u32_and_nat v 2139095040 hv (by decide)
  have e2 : bits .and .u32 (v : Int) 8388607 = ((v &&& 8388607 : Nat) : Int) := u32_and_nat v 8388607 hv (by decide)
  have hb := nan_bits v
  generalize v &&& 2139095040 = x at *
  generalize v &&& 8388607 = y at *
  rw [hb]
  clear hb
  by_cases hx : x = 2139095040
  · by_cases hy : y = 0
    · have f1 : (bits .and .u32 (v : Int) 2139095040 == 2139095040) = true := by rw [e1, hx]; rfl
      have f2 : (bits .and .u32 (v : Int) 8388607 != 0) = false := by rw [e2, hy]; rfl
      clear e1 e2
      go_enter Try.func80, Try.ntmps80
      go_wp2
      go_ret
      exact ⟨by simp [hy], rfl⟩
    · have f1 : (bits .and .u32 (v : Int) 2139095040 == 2139095040) = true := by rw [e1, hx]; rfl
      have f2 : (bits .and .u32 (v : Int) 8388607 != 0) = true := by rw [e2]; simpa using hy
      clear e1 e2
      go_enter Try.func80, Try.ntmps80
      go_wp2
      go_ret
      exact ⟨by simp [hy, hx], rfl⟩
  · have f1 : (bits .and .u32 (v : Int) 2139095040 == 2139095040) = false := by
      rw [e1, beq_eq_false_iff_ne]
      omega
    clear e1 e2
    go_enter Try.func80, Try.ntmps80
    go_wp2
    go_ret
    exact ⟨by simp [hx], rfl⟩
end Go.Proofs.Ytjahaljdfpengaa
