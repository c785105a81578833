/- The machine over fractions in memory; what it knows of num's functions. -/
import Derived.Test.YtlncagdekfjinaaGreatDoorVmD
import Derived.Test.YtlncagdekfjinaaGreatDoorSub
import Derived.Test.YtlncagdekfjinaaGreatDoorTextA
import Derived.Lib.AppendIntMem
namespace Go.Proofs.YtlncagdekfjinaaGreatDoor
open Go.RowKit Go.Sort Dg Fr
theorem DigsAt.put {w X : World} {a : Option Addr} {m cap Y r : Nat} (h : DigsAt w a m cap Y) (hB : VM.NoWB w r) (hX : ∀ k, k ≠ r → X.heap[k]? = w.heap[k]?) (hs : w.heap.size ≤ X.heap.size) : DigsAt X a m cap Y :=
  ⟨h.lt, h.fit, fun hm => by
    obtain ⟨b, off, e, hlt, hc⟩ := h.cells hm
    refine ⟨b, off, e, Nat.lt_of_lt_of_le hlt hs, fun i hi => ?_⟩
    have h1 := hc i hi
    have hbr : b ≠ r := by
      rintro rfl
      exact (hB _ _ h1 _).1 rfl
    exact (World.cell?_of_block (w := w) (a := ⟨b, off + i, none⟩) (hX b hbr)).trans h1⟩
theorem FracAt.put {w X : World} {v : Value} {q : Rat} {r : Nat} (h : FracAt w v q) (hB : VM.NoWB w r) (hX : ∀ k, k ≠ r → X.heap[k]? = w.heap[k]?) (hs : w.heap.size ≤ X.heap.size) : FracAt X v q := by
  obtain ⟨a, c, ab, nb, cb, e, hd, hb⟩ := h
  refine ⟨a, c, ab, nb, cb, e, hd.put hB hX hs, ?_⟩
  rcases hb with hb | ⟨hd1, a', c', e', hd'⟩
  · exact .inl hb
  · exact .inr ⟨hd1, a', c', e', hd'.put hB hX hs⟩
theorem nlB_eq (n : Nat) : VM.nlB n = nl n := by
  unfold VM.nlB nl
  cases n with
  | zero => rfl
  | succ k => rw [if_neg (Nat.succ_ne_zero k)]
theorem nbB_eq (n : Nat) : VM.nbB n = bl n := by
  unfold VM.nbB bl
  cases n with
  | zero => rfl
  | succ k => rw [if_neg (Nat.succ_ne_zero k)]
theorem top_natQ (n : Nat) : top (VM.natQ n) = n := rfl
theorem oneWord_at {w : World} {t : TypeId} {n : Nat} (h0 : 0 < n) (h1 : n < 18446744073709551616) : FracAt (w.alloc (.cells #[.int .u64 n] t)) (.agg #[.bool false, .slice (some ⟨w.heap.size, 0, none⟩) 1 1, .slice none 0 0]) (VM.natQ n) := by
  have hn : nl n = 1 := nl_eq (n := 0) (by rw [Nat.zero_add, Nat.pow_one]; exact h1) (by rw [Nat.pow_zero]; exact h0)
  refine ⟨some ⟨w.heap.size, 0, none⟩, 1, none, 0, 0, ?_, ?_, .inl ⟨rfl, rfl⟩⟩
  · rw [top_natQ, hn]; rfl
  · rw [top_natQ, hn]
    refine ⟨by rw [Nat.pow_one]; exact h1, Nat.le_refl _, fun _ => ⟨w.heap.size, 0, rfl, by simp, fun i hi => ?_⟩⟩
    have : i = 0 := by omega
    subst this
    rw [show dig n 0 = n from by unfold dig; rw [Nat.pow_zero, Nat.div_one]; exact Nat.mod_eq_of_lt h1]
    rw [Nat.zero_add, World.cell?_alloc_new]; rfl
def Env2 (w : World) : Prop := Env w ∧ Lib.TabIs Tryz.prog w "internal/strconv.uint64pow10" .u64 Lib.pow10Tab
theorem Env2.mono {w w' : World} (h : Env2 w) (hb : Below w.heap.size w w') : Env2 w' := ⟨h.1.mono hb, Lib.tabBelow_of_tabIs h.2 w' hb⟩
def ft : VM.FT where
  FA := FracAt
  E := Env2
  mono h hb := h.mono hb
  put h hB hX hs := h.put hB hX hs
  zero := FracAt.zero
  cells h := by obtain ⟨a, c, ab, nb, cb, e, _⟩ := h; exact ⟨_, _, _, _, _, _, _, e⟩
  envMono h hb := h.mono hb
  txt := textQ
  neg h := by obtain ⟨a, c, ab, nb, cb, e, _⟩ := h; simp at e; exact e.1
  top h := by
    obtain ⟨a, c, ab, nb, cb, e, hd, _⟩ := h
    simp at e
    obtain ⟨_, rfl, _⟩ := e
    exact ⟨a, c, none, 0, 0, rfl, hd, .inl ⟨rfl, rfl⟩⟩
  len h := by
    obtain ⟨a, c, ab, nb, cb, e, _⟩ := h
    simp at e
    obtain ⟨_, rfl, _⟩ := e
    exact ⟨a, c, by rw [nlB_eq]; rfl⟩
  word h0 h1 := oneWord_at h0 h1
  FR := fun _ _ _ => False
  monoR h _ := h
  putR h _ _ _ := h
  cellsR h := h.elim
  negR h := h.elim
theorem fits_small {k : Nat} {q : Rat} (h : VM.Fits k q) (hk : k ≤ 2432) : Small q := by
  obtain ⟨a, ha⟩ : ∃ a, a = 64 := ⟨_, rfl⟩
  obtain ⟨b, hb⟩ : ∃ b, b = 38 := ⟨_, rfl⟩
  have hk : k ≤ a * b := by subst ha hb; exact hk
  have h := Fit.mono (show Fit k q from h) hk
  have ea : (2 : Nat) ^ a = B := by rw [ha]; rfl
  have e : (2 : Nat) ^ (a * b) = B ^ b := by rw [Nat.pow_mul, ea]
  have hb' : b ≤ 38 := by omega
  exact ⟨Nat.le_trans (nl_le (n := b) (by rw [← e]; exact h.1)) hb', Nat.le_trans (nl_le (n := b) (by rw [← e]; exact h.2)) hb'⟩
theorem fits_new (k l : Nat) (n d : Int) (h1 : n.natAbs < 2 ^ k) (h2 : d.natAbs < 2 ^ l) (k1 : 1 ≤ k) (l1 : 1 ≤ l) : VM.Fits (k + l) ((n : Rat) / (d : Rat)) := (Fit.int h1 k1).div (Fit.int h2 l1) l1
theorem sOk_new : VM.SOk ft Tryz.prog 58 VM.sNew := VM.sNew_ok fits_new (fun w n d h0 h1 k0 k1 hd hE => Calls.mono (New_any n d h0 h1 k0 k1 hd w hE.1) (fun _ _ ⟨v, h1, h2, h3⟩ => ⟨v, h1, h2, h3⟩))
theorem sOk_int : VM.SOk ft Tryz.prog 91 VM.sInt := VM.sInt_ok (fun _ _ h hk => Fit.int h hk) (fun w n h0 h1 => Calls.mono (Int_any n h0 h1 w) (fun _ _ h => h))
theorem sOk_add : VM.SOk ft Tryz.prog 62 (VM.s2 .add fun a b => a + b + 1) := VM.s2_ok (op := (· + ·)) (fun _ _ _ => rfl) (fun _ _ _ _ hx hy => Fit.add hx hy) (fun _ _ _ _ _ _ _ hx hy fx fy ha hb _ hE => Calls.mono (Add_any hx hy (fits_small fx ha) (fits_small fy hb) hE.1) (fun _ _ h => h))
theorem sOk_sub : VM.SOk ft Tryz.prog 60 (VM.s2 .sub fun a b => a + b + 1) := VM.s2_ok (op := (· - ·)) (fun _ _ _ => rfl) (fun _ _ _ _ hx hy => Fit.sub hx hy) (fun _ _ _ _ _ _ _ hx hy fx fy ha hb hn hE => Calls.mono (Sub_any hx hy (fits_small fx ha) (fits_small fy hb) (fits_small hn (Nat.le_refl _)) hE.1) (fun _ _ h => h))
theorem sOk_mul : VM.SOk ft Tryz.prog 61 (VM.s2 .mul fun a b => a + b) := VM.s2_ok (op := (· * ·)) (fun _ _ _ => rfl) (fun _ _ _ _ hx hy => Fit.mul hx hy) (fun _ _ _ _ _ _ _ hx hy fx fy ha hb _ hE => Calls.mono (Mul_any hx hy (fits_small fx ha) (fits_small fy hb) hE.1) (fun _ _ h => h))
theorem sOk_neg : VM.SOk ft Tryz.prog 123 (VM.s1 .neg fun a => a) := VM.s1_ok (op := fun x => -x) (fun _ _ => rfl) (fun _ _ hx => Fit.neg hx) (fun _ _ _ _ hx fx ha _ => Calls.mono (Neg_any hx (fits_small fx ha)) (fun _ _ h => h))
theorem sOk_zero : VM.SOk ft Tryz.prog 142 VM.sZero := VM.sZero_ok (fun _ _ _ hx => Calls.mono (Zero_any hx) (fun _ _ h => h))
theorem sOk_sign : VM.SOk ft Tryz.prog 88 VM.sSign := VM.sSign_ok (fun _ _ _ hx => Calls.mono (Sign_any hx) (fun _ _ h => h))
theorem sOk_cmp : VM.SOk ft Tryz.prog 63 VM.sCmp := VM.sCmp_ok (fun _ _ _ _ _ _ _ hx hy fx fy ha hb => Calls.mono (Cmp_any hx hy (fits_small fx ha) (fits_small fy hb)) (fun _ _ h => h))
theorem sOk_text : VM.SOk ft Tryz.prog 57 VM.sText := VM.sText_ok (fun _ _ _ _ hx fx ha hE => Calls.mono (Text_any hx (Nat.le_trans (fits_small fx ha).1 (by decide)) (Nat.le_trans (fits_small fx ha).2 (by decide)) hE.2) (fun _ _ h => h))
theorem sOk_inv : VM.SOk ft Tryz.prog 160 VM.sInv := VM.sInv_ok (fun a x hx _ => by
    by_cases hb : 1 ≤ a
    · exact Fit.inv hx hb
    · have hb : a = 0 := by omega
      subst hb
      have := hx.2
      have := x.den_pos
      omega) (fun _ _ _ _ hx fx ha h0 _ => Calls.mono (inverse_any hx (fits_small fx ha) h0) (fun _ _ h => h))
theorem sOk_div : VM.SOk ft Tryz.prog 89 VM.sDiv := VM.sDiv_ok (fun _ b _ y hx hy => by
    by_cases hb : 1 ≤ b
    · exact Fit.div hx hy hb
    · have hb : b = 0 := by omega
      subst hb
      have := hy.2
      have := y.den_pos
      omega)
  (fun _ _ _ _ _ _ _ hx hy fx fy ha hb h0 hE => Calls.mono (Div_any hx hy (fits_small fx ha) (fits_small fy hb) hE.1 h0) (fun _ _ ⟨v, h1, h2, h3⟩ => ⟨v, h1, h2, h3⟩))
  (fun _ _ _ _ hx hy => Calls.mono (Div_zero hx hy) (fun _ _ h => h))
theorem sumR_eq : ∀ l : List Rat, VM.sumR l = sumQ l
  | [] => rfl
  | q :: l => by show q + VM.sumR l = q + sumQ l; rw [sumR_eq l]
theorem fits_sum : ∀ {ks : List Nat} {qs : List Rat}, VM.All2 VM.Fits ks qs → VM.Fits (VM.sumOf ks + ks.length + 1) (VM.sumR qs)
  | [], [], _ => ⟨by decide, by decide⟩
  | k :: ks, q :: qs, ⟨h, hr⟩ => by
    have := Fit.add h (fits_sum hr)
    have e : VM.sumOf (k :: ks) + (k :: ks).length + 1 = k + (VM.sumOf ks + ks.length + 1) + 1 := by
      show (k + VM.sumOf ks) + (ks.length + 1) + 1 = _
      omega
    rw [e]; exact this
theorem sumOf_drop : ∀ (ks : List Nat) (i : Nat), VM.sumOf (ks.drop i) ≤ VM.sumOf ks
  | [], i => by simp
  | k :: ks, 0 => by simp
  | k :: ks, i + 1 => by
    show VM.sumOf (ks.drop i) ≤ k + VM.sumOf ks
    have := sumOf_drop ks i
    omega
theorem sumOf_take : ∀ (ks : List Nat) (i : Nat), VM.sumOf (ks.take i) ≤ VM.sumOf ks
  | [], i => by simp
  | k :: ks, 0 => by show 0 ≤ _; omega
  | k :: ks, i + 1 => by
    show k + VM.sumOf (ks.take i) ≤ k + VM.sumOf ks
    have := sumOf_take ks i
    omega
theorem all_small {ks : List Nat} {qs : List Rat} (h : VM.All2 VM.Fits ks qs) (hb : VM.sumOf ks + ks.length + 1 ≤ 2432) : AllSmall qs := by
  intro i j
  have h1 := fits_sum ((h.drop i).take j)
  rw [sumR_eq] at h1
  have h2 := sumOf_take (ks.drop i) j
  have h3 := sumOf_drop ks i
  have h4 : ((ks.drop i).take j).length ≤ ks.length := by simp; omega
  exact fits_small h1 (by omega)
theorem sOk_sum : VM.SOk ft Tryz.prog 122 VM.sSum := VM.sSum_ok (fun _ _ h => fits_sum h)
  (fun w => Calls.mono (total_nil 0 none w) (fun _ _ h => h))
  (fun w g o c qs ks h0 h1 h2 hg hc hf hb hE => by
    rw [sumR_eq]
    exact total_any qs.length qs qs.length (some ⟨g, o, none⟩) c w rfl (Nat.le_refl _) h1 h2 (fun _ => ⟨g, o, rfl, hg, hc⟩) (all_small hf hb) hE.1)
noncomputable def numTab : List (FuncId × (List VM.AV → VM.St → VM.Tree (VM.TV × VM.St))) := [
  (58, VM.sNew),
  (91, VM.sInt),
  (62, VM.s2 .add fun a b => a + b + 1),
  (60, VM.s2 .sub fun a b => a + b + 1),
  (61, VM.s2 .mul fun a b => a + b),
  (123, VM.s1 .neg fun a => a),
  (142, VM.sZero),
  (88, VM.sSign),
  (63, VM.sCmp),
  (57, VM.sText),
  (89, VM.sDiv),
  (160, VM.sInv),
  (122, VM.sSum)]
theorem numTab_ok : ∀ p ∈ numTab, VM.SOk ft Tryz.prog p.1 p.2 := by
  intro p hp
  simp only [numTab, List.mem_cons, List.mem_nil_iff, or_false] at hp
  rcases hp with rfl | rfl | rfl | rfl | rfl | rfl | rfl | rfl | rfl | rfl | rfl | rfl | rfl
  · exact sOk_new
  · exact sOk_int
  · exact sOk_add
  · exact sOk_sub
  · exact sOk_mul
  · exact sOk_neg
  · exact sOk_zero
  · exact sOk_sign
  · exact sOk_cmp
  · exact sOk_text
  · exact sOk_div
  · exact sOk_inv
  · exact sOk_sum
def md (f : FuncId) : VM.Md := if f = 118 then .read else if f = 117 then .read else if f = 122 then .read else .val
noncomputable def num (N n : Nat) : VM.CallF := VM.runF Tryz.prog (VM.look numTab) md (fun c => VM.aDraw Tryz.prog md c) N n
theorem num_ok (N n : Nat) : VM.COk ft Tryz.prog md (num N n) := VM.runF_ok (VM.tab_ok numTab_ok) (fun _ h => VM.aDraw_ok h) N n
end Go.Proofs.YtlncagdekfjinaaGreatDoor
