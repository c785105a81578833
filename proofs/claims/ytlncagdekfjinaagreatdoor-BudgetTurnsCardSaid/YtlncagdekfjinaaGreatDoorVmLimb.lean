/- What the machine knows of natural numbers in memory, and of plain data's fractions. -/
import Derived.Test.YtlncagdekfjinaaGreatDoorVmNum
import Derived.Test.YtlncagdekfjinaaGreatDoorBinary
import Derived.Test.YtlncagdekfjinaaGreatDoorVmOf
import Derived.KernelRfl
namespace Go.Proofs.YtlncagdekfjinaaGreatDoor
open Go.RowKit Go.Sort Dg Fr
theorem la_at {w : World} {u : Value} {X : Nat} (h : VM.LA ft w u X) : ∃ a c, u = .slice a (nl X) c ∧ DigsAt w a (nl X) c X := by
  obtain ⟨a, c, ab, nb, cb, e, hd, _⟩ := h
  simp only [top_natQ] at e hd
  simp at e
  exact ⟨a, c, e.2.1, hd⟩
theorem la_of {w : World} {a : Option Addr} {c X : Nat} (h : DigsAt w a (nl X) c X) : VM.LA ft w (.slice a (nl X) c) X := by
  refine ⟨a, c, none, 0, 0, ?_, h, .inl ⟨rfl, rfl⟩⟩
  rw [top_natQ]; rfl
theorem gives_la {w : World} {X : Nat} {e : Ending} {w' : World} (h : Gives w X e w') : ∃ r, e = .returned r ∧ VM.LA ft w' r X ∧ Below w.heap.size w w' := by
  obtain ⟨a, c, rfl, hd, hb⟩ := h
  exact ⟨_, rfl, la_of hd, hb⟩
theorem nl_bits {X a : Nat} (h : X < 2 ^ a) (ha : a ≤ 2432) : nl X ≤ 38 := by
  obtain ⟨b, hb⟩ : ∃ b, b = 38 := ⟨_, rfl⟩
  have h2 : X < B ^ b := by
    rw [B_pow_two]
    exact Nat.lt_of_lt_of_le h (Nat.pow_le_pow_right (by decide) (by omega))
  have := nl_le h2
  omega
theorem sOk_lmul : VM.SOk ft Tryz.prog 127 (VM.sL2 .nmul (fun a b => a + b) fun i _ => .qle i i) := VM.sL2_ok (op := (· * ·)) (C := fun _ _ => True) (fun _ _ _ => rfl) (fun _ _ _ _ => trivial)
  (fun a b x y hx hy ha _ => ⟨by rw [Nat.pow_add]; exact Nat.mul_lt_mul'' hx hy, by omega⟩)
  (fun w u v x y a b hu hv hx hy ha hb _ _ => by
    obtain ⟨p, c, rfl, h1⟩ := la_at hu
    obtain ⟨q, d, rfl, h2⟩ := la_at hv
    have n1 := nl_bits hx ha
    have n2 := nl_bits hy hb
    exact (mul_any p q c d x y w h1 h2 (by omega) (by omega) (by omega)).mono fun _ _ h => gives_la h)
theorem sOk_ladd : VM.SOk ft Tryz.prog 176 (VM.sL2 .nadd (fun a b => max a b + 1) fun i _ => .qle i i) := VM.sL2_ok (op := (· + ·)) (C := fun _ _ => True) (fun _ _ _ => rfl) (fun _ _ _ _ => trivial)
  (fun a b x y hx hy ha hb => by
    have h1 : 2 ^ a ≤ 2 ^ (max a b) := Nat.pow_le_pow_right (by decide) (by omega)
    have h2 : 2 ^ b ≤ 2 ^ (max a b) := Nat.pow_le_pow_right (by decide) (by omega)
    refine ⟨?_, by omega⟩
    show x + y < 2 ^ (max a b + 1)
    rw [Nat.pow_succ]; omega)
  (fun w u v x y a b hu hv hx hy ha hb _ _ => by
    obtain ⟨p, c, rfl, h1⟩ := la_at hu
    obtain ⟨q, d, rfl, h2⟩ := la_at hv
    have n1 := nl_bits hx ha
    have n2 := nl_bits hy hb
    exact (add_any p q c d x y w h1 h2 (by omega) (by omega)).mono fun _ _ h => gives_la h)
theorem sOk_lsub : VM.SOk ft Tryz.prog 177 (VM.sL2 .nsub (fun a _ => a) fun i j => .qle j i) := VM.sL2_ok (op := (· - ·)) (C := fun x y => y ≤ x) (fun _ _ _ => rfl) (fun _ _ _ h => of_decide_eq_true h)
  (fun a b x y hx hy ha hb => ⟨show x - y < 2 ^ a by omega, ha⟩)
  (fun w u v x y a b hu hv hx hy ha hb hC _ => by
    obtain ⟨p, c, rfl, h1⟩ := la_at hu
    obtain ⟨q, d, rfl, h2⟩ := la_at hv
    have n1 := nl_bits hx ha
    exact (sub_any p q c d x y w h1 h2 (by omega) hC).mono fun _ _ h => gives_la h)
theorem sOk_lover : VM.SOk ft Tryz.prog 130 (VM.sL2 .ndiv (fun a _ => a) fun _ j => .pos j) := VM.sL2_ok (op := (· / ·)) (C := fun _ y => 0 < y) (fun _ _ _ => rfl) (fun _ _ _ h => of_decide_eq_true h)
  (fun a b x y hx hy ha hb => ⟨Nat.lt_of_le_of_lt (Nat.div_le_self _ _) hx, ha⟩)
  (fun w u v x y a b hu hv hx hy ha hb hC hE => by
    obtain ⟨p, c, rfl, h1⟩ := la_at hu
    obtain ⟨q, d, rfl, h2⟩ := la_at hv
    have n1 := nl_bits hx ha
    have n2 := nl_bits hy hb
    exact (over_any p q c d x y w h1 h2 (by omega) (by omega) (by omega) hE.1).mono fun _ _ h => gives_la h)
theorem sOk_ldiv : VM.SOk ft Tryz.prog 183 VM.sLdiv := VM.sLdiv_ok
  (fun w u v x y a b hu hv hx hy ha hb hC hE => by
    obtain ⟨p, c, rfl, h1⟩ := la_at hu
    obtain ⟨q, d, rfl, h2⟩ := la_at hv
    have n1 := nl_bits hx ha
    have n2 := nl_bits hy hb
    refine (divide_any p q c d x y w h1 h2 (by omega) (by omega) (by omega) hE.1).mono ?_
    rintro e w' ⟨a1, c1, a2, c2, rfl, h3, h4, h5, _⟩
    exact ⟨_, _, rfl, la_of h3, la_of h4, h5⟩)
theorem sOk_lword : VM.SOk ft Tryz.prog 165 VM.sLword := VM.sLword_ok
  (fun w u x d a hu hx ha hd hlt _ => by
    obtain ⟨p, c, rfl, h1⟩ := la_at hu
    have n1 := nl_bits hx ha
    refine (divideWord_any p c x d w h1 (by omega) hd hlt).mono ?_
    rintro e w' ⟨a1, c1, rfl, h3, h4⟩
    exact ⟨_, rfl, la_of h3, h4⟩)
theorem sOk_lleft : VM.SOk ft Tryz.prog 185 (VM.sLshift .shl fun a _ b => a + b) := VM.sLshift_ok (op := fun x k => x * 2 ^ k) (fun _ _ _ => rfl)
  (fun a _ b x k hx ha _ hk => by
    refine ⟨?_, by omega⟩
    have h2 : 2 ^ k ≤ 2 ^ b := Nat.pow_le_pow_right (by decide) hk
    rw [Nat.pow_add]
    exact Nat.lt_of_lt_of_le (Nat.mul_lt_mul_of_pos_right hx (Nat.pow_pos (by decide))) (Nat.mul_le_mul_left _ h2))
  (fun w u x k a hu hx ha hk _ => by
    obtain ⟨p, c, rfl, h1⟩ := la_at hu
    have n1 := nl_bits hx ha
    exact (left_any p c x k w h1 (by omega) (by omega)).mono fun _ _ h => gives_la h)
theorem shr_bits {a b x k : Nat} (hx : x < 2 ^ a) (_ha : 1 ≤ a) (hb : b ≤ k) : x / 2 ^ k < 2 ^ (if a ≤ b then 1 else a - b) ∧ 1 ≤ (if a ≤ b then 1 else a - b) := by
  have hp : 2 ^ b ≤ 2 ^ k := Nat.pow_le_pow_right (by decide) hb
  have hle : x / 2 ^ k ≤ x / 2 ^ b := Nat.div_le_div_left hp (Nat.pow_pos (by decide))
  split
  · rename_i h
    have h2 : 2 ^ a ≤ 2 ^ b := Nat.pow_le_pow_right (by decide) h
    have h3 : x / 2 ^ b = 0 := Nat.div_eq_of_lt (by omega)
    refine ⟨?_, by decide⟩
    rw [Nat.pow_one]; omega
  · rename_i h
    refine ⟨Nat.lt_of_le_of_lt hle ?_, by omega⟩
    rw [Nat.div_lt_iff_lt_mul (Nat.pow_pos (by decide)), ← Nat.pow_add, show a - b + b = a by omega]
    exact hx
theorem sOk_lright : VM.SOk ft Tryz.prog 179 VM.sLshr := VM.sLshr_ok (fun _ _ _ _ hx ha hb => shr_bits hx ha hb)
  (fun w u x k a hu hx ha hk _ => by
    obtain ⟨p, c, rfl, h1⟩ := la_at hu
    have n1 := nl_bits hx ha
    exact (right_any p c x k w h1 (by omega) (by omega)).mono fun _ _ h => gives_la h)
theorem cmpN_R (x y : Nat) : cmpN x y = VM.cmpR (VM.natQ x) (VM.natQ y) := by
  unfold cmpN VM.cmpR VM.natQ
  simp only [Rat.intCast_lt_intCast, Int.ofNat_lt]
theorem sOk_lcmp : VM.SOk ft Tryz.prog 132 VM.sLcmp := VM.sLcmp_ok
  (fun w u v x y a b hu hv hx hy ha hb => by
    obtain ⟨p, c, rfl, h1⟩ := la_at hu
    obtain ⟨q, d, rfl, h2⟩ := la_at hv
    have n1 := nl_bits hx ha
    refine (compare_any p q c d x y w h1 h2 (by omega)).mono ?_
    rintro e w' ⟨rfl, k, rfl⟩
    rw [cmpN_R]
    exact ⟨rfl, below_drawn (Below.refl _ _) k⟩)
theorem sOk_llen : VM.SOk ft Tryz.prog 180 VM.sLlen := VM.sLlen_ok
  (fun w u x a hu hx ha _ => by
    obtain ⟨p, c, rfl, h1⟩ := la_at hu
    have n1 := nl_bits hx ha
    refine (length_any p c x w h1 (by omega)).mono ?_
    rintro e w' ⟨rfl, rfl⟩
    rw [nbB_eq]
    exact ⟨rfl, Below.refl _ _⟩)
theorem sOk_word : VM.SOk ft Tryz.prog 170 VM.sWord := VM.sWord_ok (fun w n hn => (word_any n hn w).mono fun _ _ h => gives_la h)
theorem sOk_power : VM.SOk ft Tryz.prog 230 VM.sPower := VM.sPower_ok (fun w k hk _ => (power_any k (by omega) w).mono fun _ _ h => gives_la h)
theorem sOk_under : VM.SOk ft Tryz.prog 125 VM.sUnder := VM.sUnder_ok (fun _ _ _ hu => (under_any hu).mono fun _ _ h => gives_la h)
theorem fits_bin (s : Bool) (X a k : Nat) (h : X < 2 ^ a) : VM.Fits (if a < k + 1 then k + 1 else a) (VM.binQ s X k) := by
  have hm : a ≤ (if a < k + 1 then k + 1 else a) ∧ k + 1 ≤ (if a < k + 1 then k + 1 else a) := by split <;> omega
  generalize (if a < k + 1 then k + 1 else a) = m at hm
  have h1 : 2 ^ a ≤ 2 ^ m := Nat.pow_le_pow_right (by decide) hm.1
  have h2 : 2 ^ (k + 1) ≤ 2 ^ m := Nat.pow_le_pow_right (by decide) hm.2
  have h3 : 2 ^ k < 2 ^ (k + 1) := Nat.pow_lt_pow_right (by decide) (Nat.lt_succ_self k)
  rw [binQ_frac]
  have hp : 2 ^ k ≠ 0 := Nat.pos_iff_ne_zero.1 (Nat.pow_pos (by decide))
  obtain ⟨h4, h5⟩ := mkRat_le (sg s X) (2 ^ k) hp
  rw [sg_abs] at h4
  exact ⟨Nat.lt_of_le_of_lt h4 (by omega), Nat.lt_of_le_of_lt h5 (by omega)⟩
theorem sOk_bin : VM.SOk ft Tryz.prog 221 VM.sBin := VM.sBin_ok fits_bin
  (fun w s u X a k hu hx ha hk hE => by
    obtain ⟨p, c, rfl, h1⟩ := la_at hu
    have n1 := nl_bits hx ha
    exact (binary_any s p c X k w h1 (by omega) (by omega) hE.1).mono fun _ _ h => h)
theorem sOk_build : VM.SOk ft Tryz.prog 126 VM.sBuild := VM.sBuild_ok fits_bin
  (fun w s u X a hu hx ha => by
    obtain ⟨p, c, rfl, h1⟩ := la_at hu
    rw [binQ_frac]
    exact (build_any s p c X 1 _ w h1 (.inl ⟨rfl, rfl⟩) (.inr (Nat.coprime_one_right X))).mono fun _ _ h => h)
noncomputable def limbTab : List (FuncId × (List VM.AV → VM.St → VM.Tree (VM.TV × VM.St))) := [
  (127, VM.sL2 .nmul (fun a b => a + b) fun i _ => .qle i i),
  (176, VM.sL2 .nadd (fun a b => max a b + 1) fun i _ => .qle i i),
  (177, VM.sL2 .nsub (fun a _ => a) fun i j => .qle j i),
  (130, VM.sL2 .ndiv (fun a _ => a) fun _ j => .pos j),
  (183, VM.sLdiv),
  (165, VM.sLword),
  (185, VM.sLshift .shl fun a _ b => a + b),
  (179, VM.sLshr),
  (132, VM.sLcmp),
  (180, VM.sLlen),
  (170, VM.sWord),
  (230, VM.sPower),
  (125, VM.sUnder),
  (221, VM.sBin),
  (126, VM.sBuild)] ++ numTab
theorem limbTab_ok : ∀ p ∈ limbTab, VM.SOk ft Tryz.prog p.1 p.2 := by
  intro p hp
  simp only [limbTab, List.mem_append, List.mem_cons, List.mem_nil_iff, or_false] at hp
  rcases hp with (rfl | rfl | rfl | rfl | rfl | rfl | rfl | rfl | rfl | rfl | rfl | rfl | rfl | rfl | rfl) | hp
  · exact sOk_lmul
  · exact sOk_ladd
  · exact sOk_lsub
  · exact sOk_lover
  · exact sOk_ldiv
  · exact sOk_lword
  · exact sOk_lleft
  · exact sOk_lright
  · exact sOk_lcmp
  · exact sOk_llen
  · exact sOk_word
  · exact sOk_power
  · exact sOk_under
  · exact sOk_bin
  · exact sOk_build
  · exact numTab_ok p hp
noncomputable def limb (N n : Nat) : VM.CallF := VM.runF Tryz.prog (VM.look limbTab) md (fun c => VM.aDraw Tryz.prog md c) N n
theorem limb_ok (N n : Nat) : VM.COk ft Tryz.prog md (limb N n) := VM.runF_ok (VM.tab_ok limbTab_ok) (fun _ h => VM.aDraw_ok h) N n
theorem sYes_ok {f : FuncId} {N n : Nat} (h : (limb N n f [] (VM.stOf [])).chk ft.txt (VM.env0 []).m VM.yesB = true) : VM.SOk ft Tryz.prog f sYes := by
  intro w0 ρ s w avs vs H hav K hK
  match avs, vs, hav, hK with
  | [], [], _, hK =>
    have hs : VM.SRel ft w (VM.env0 []) (VM.stOf []) w := VM.SRel.start (T := ft) (VM.SRel.env H) (rs := []) (l := []) trivial
    have ha : VM.All2 (VM.ARel (VM.env0 [])) ([] : List VM.AV) ([] : List Value) := trivial
    refine Calls.mono (yes_of_chk (limb_ok N n) hs ha h) ?_
    rintro e w' ⟨rfl, hb⟩
    exact ⟨⟨ρ, .v (.c (.bl true)), s, _, hK, .refl _, H.world hb, rfl, rfl⟩, hb⟩
  | _ :: _, _, _, hK => exact hK.elim
end Go.Proofs.YtlncagdekfjinaaGreatDoor
