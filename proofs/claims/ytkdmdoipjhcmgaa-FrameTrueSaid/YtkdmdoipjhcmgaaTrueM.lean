/- What stands behind FrameTrue: true times lie in the ranges of true checks. -/
import Derived.Test.YtkdmdoipjhcmgaaAgree
import Derived.Test.YtkdmdoipjhcmgaaTime
namespace Go.Proofs.Ytkdmdoipjhcmgaa.truth
open Go.RowKit

/-- The check that the law makes: the start, the rate, and three numbers. -/
def mk (s dr t0 t1 t2 : Int) : Ck := ⟨0, 1000 * t0, max (s + 1000 * t0 + t0 * dr - t1) 0, s + 1000 * t0 + t0 * dr + t2⟩
/-- A check that the law can have made. -/
def Good (s dr : Int) (c : Ck) : Prop := ∃ t0 t1 t2 : Int, (0 ≤ t0 ∧ t0 ≤ 65535) ∧ (0 ≤ t1 ∧ t1 ≤ 65535) ∧ (0 ≤ t2 ∧ t2 ≤ 65535) ∧ c = mk s dr t0 t1 t2

theorem wrg_thousand (p dr : Int) : wrg (1000 * p) (1000 * dr) = max p (-p) * dr := by
  unfold wrg
  have e : max (1000 * p) (-(1000 * p)) = 1000 * max p (-p) := by omega
  rw [e]
  have e2 : 1000 * max p (-p) * (1000 * dr) = 1000000 * (max p (-p) * dr) := by
    generalize max p (-p) = q
    grind
  rw [e2]
  omega
theorem abs_mul (p dr : Int) (h : 0 ≤ dr) : p * dr ≤ max p (-p) * dr ∧ -(p * dr) ≤ max p (-p) * dr := by
  constructor
  · exact Int.mul_le_mul_of_nonneg_right (by omega) h
  · rw [← Int.neg_mul]
    exact Int.mul_le_mul_of_nonneg_right (by omega) h

theorem good_zero {s dr : Int} (hs : 0 ≤ s) (hs' : s ≤ 65535) (hd : 0 ≤ dr) (hd' : dr ≤ 99) {c : Ck} (h : Good s dr c) : ckE c = 0 := by
  obtain ⟨t0, t1, t2, ⟨a0, a1⟩, ⟨b0, b1⟩, ⟨c0, c1⟩, rfl⟩ := h
  have m0 : 0 ≤ t0 * dr := Int.mul_nonneg a0 hd
  have m1 : t0 * dr ≤ 65535 * 99 := Int.mul_le_mul a1 hd' hd (by omega)
  unfold ckE mk
  rw [if_neg (by simp only; omega), if_neg (by simp only; omega), if_neg (by simp only; omega)]

/-- The true time lies in the range by a check. -/
theorem in_range {s dr : Int} (hs : 0 ≤ s) (hd : 0 ≤ dr) {c : Ck} (h : Good s dr c) (m : Int) (hm : 0 ≤ m) :
    atLo c (1000 * m) (1000 * dr) ≤ s + 1000 * m + m * dr ∧ s + 1000 * m + m * dr ≤ atHi c (1000 * m) (1000 * dr) := by
  obtain ⟨t0, t1, t2, ⟨a0, a1⟩, ⟨b0, b1⟩, ⟨c0, c1⟩, rfl⟩ := h
  have e : 1000 * m - 1000 * t0 = 1000 * (m - t0) := by omega
  have hw := wrg_thousand (m - t0) dr
  obtain ⟨h1, h2⟩ := abs_mul (m - t0) dr hd
  have h3 : (m - t0) * dr = m * dr - t0 * dr := Int.sub_mul ..
  have m0 : 0 ≤ t0 * dr := Int.mul_nonneg a0 hd
  have m1 : 0 ≤ m * dr := Int.mul_nonneg hm hd
  unfold atLo atHi mk
  simp only
  rw [e, hw]
  generalize max (m - t0) (-(m - t0)) * dr = q at *
  omega

/-- A smaller drift has a range in the other one. -/
theorem half (p dr : Int) (h : 0 ≤ dr) : wrg (1000 * p) (500 * dr) ≤ wrg (1000 * p) (1000 * dr) := by
  rw [wrg_thousand]
  unfold wrg
  have e : max (1000 * p) (-(1000 * p)) = 1000 * max p (-p) := by omega
  rw [e]
  have hq : 0 ≤ max p (-p) * dr := Int.mul_nonneg (by omega) h
  have e2 : 1000 * max p (-p) * (500 * dr) = 500000 * (max p (-p) * dr) := by
    generalize max p (-p) = q
    grind
  rw [e2]
  generalize max p (-p) * dr = q at *
  omega

theorem chk_of {l : List Ck} {d : Int} (hn : l.length ≤ 16) (hd : 0 ≤ d ∧ d ≤ 100000) (h : ∀ c ∈ l, ckE c = 0) : chk l d = 0 := by
  unfold chk
  rw [if_neg (by omega), if_neg (by omega)]
  clear hn
  induction l with
  | nil => rfl
  | cons c l ih =>
    unfold ckErr
    rw [if_pos (h c (by simp))]
    exact ih fun x hx => h x (by simp [hx])
theorem has_of {l : List Ck} (hn : 0 < l.length) (h : ∀ c ∈ l, c.life = 0) : has 0 l = true := by
  cases l with
  | nil => exact absurd hn (Nat.lt_irrefl 0)
  | cons c l => simp [has, h c (by simp)]
theorem tm_zero {c : Ck} (h : c.life = 0) (clock d : Int) (r : Int × Int) : tm 0 clock d r c = (max r.1 (atLo c clock d), min r.2 (atHi c clock d)) := by
  unfold tm atLo atHi
  rw [if_pos h]
theorem fold_in {clock d now : Int} : ∀ (l : List Ck) (r : Int × Int), (∀ c ∈ l, c.life = 0 ∧ atLo c clock d ≤ now ∧ now ≤ atHi c clock d) → r.1 ≤ now ∧ now ≤ r.2 → (l.foldl (tm 0 clock d) r).1 ≤ now ∧ now ≤ (l.foldl (tm 0 clock d) r).2
  | [], r, _, hr => hr
  | c :: l, r, h, hr => by
    rw [List.foldl_cons]
    refine fold_in l _ (fun x hx => h x (by simp [hx])) ?_
    obtain ⟨h0, h1, h2⟩ := h c (by simp)
    rw [tm_zero h0]
    simp only
    omega
theorem fold_half {clock d d' : Int} : ∀ (l : List Ck) (r r' : Int × Int), (∀ c ∈ l, c.life = 0 ∧ atLo c clock d ≤ atLo c clock d' ∧ atHi c clock d' ≤ atHi c clock d) → r.1 ≤ r'.1 ∧ r'.2 ≤ r.2 →
    (l.foldl (tm 0 clock d) r).1 ≤ (l.foldl (tm 0 clock d') r').1 ∧ (l.foldl (tm 0 clock d') r').2 ≤ (l.foldl (tm 0 clock d) r).2
  | [], r, r', _, hr => hr
  | c :: l, r, r', h, hr => by
    rw [List.foldl_cons, List.foldl_cons]
    refine fold_half l _ _ (fun x hx => h x (by simp [hx])) ?_
    obtain ⟨h0, h1, h2⟩ := h c (by simp)
    rw [tm_zero h0, tm_zero h0]
    simp only
    omega
theorem fold_less {clock d : Int} : ∀ (l : List Ck) (r : Int × Int), (∀ c ∈ l, c.life = 0) → r.1 ≤ (l.foldl (tm 0 clock d) r).1 ∧ (l.foldl (tm 0 clock d) r).2 ≤ r.2
  | [], r, _ => ⟨Int.le_refl _, Int.le_refl _⟩
  | c :: l, r, h => by
    rw [List.foldl_cons]
    have := fold_less (clock := clock) (d := d) l (tm 0 clock d r c) (fun x hx => h x (by simp [hx]))
    rw [tm_zero (h c (by simp))] at this
    simp only at this
    rw [tm_zero (h c (by simp))]
    omega

theorem life_zero {s dr : Int} {l : List Ck} (hl : ∀ c ∈ l, Good s dr c) : ∀ c ∈ l, c.life = 0 := fun c hc => by
  obtain ⟨_, _, _, _, _, _, rfl⟩ := hl c hc
  rfl
theorem first {s dr m : Int} {l : List Ck} (hs : 0 ≤ s) (hs' : s ≤ 65535) (hd : 0 ≤ dr) (hd' : dr ≤ 99) (hm : 0 ≤ m) (hm' : m ≤ 99999) (hl : ∀ c ∈ l, Good s dr c) (hn : 0 < l.length) (hn' : l.length ≤ 16) : timeR l (1000 * dr) 0 (1000 * m) = ((tms 0 (1000 * m) (1000 * dr) l).1, (tms 0 (1000 * m) (1000 * dr) l).2, 0) ∧
    (tms 0 (1000 * m) (1000 * dr) l).1 ≤ s + 1000 * m + m * dr ∧ s + 1000 * m + m * dr ≤ (tms 0 (1000 * m) (1000 * dr) l).2 := by
  have h0 := life_zero hl
  have m0 : 0 ≤ m * dr := Int.mul_nonneg hm hd
  have m1 : m * dr ≤ 99999 * 99 := Int.mul_le_mul hm' hd' hd (by omega)
  have hin := fold_in (clock := 1000 * m) (d := 1000 * dr) (now := s + 1000 * m + m * dr) l (-9223372036854775808, 9223372036854775807) (fun c hc => ⟨h0 c hc, in_range hs hd (hl c hc) m hm⟩) (by simp only; omega)
  refine ⟨?_, hin⟩
  unfold timeR
  rw [if_neg (by rw [chk_of hn' (by omega) fun c hc => good_zero hs hs' hd hd' (hl c hc)]; simp), if_neg (by omega), if_neg (by rw [has_of hn h0]; simp)]
  unfold tms
  rw [if_neg (by omega)]
theorem third {s dr m : Int} {l : List Ck} (hs : 0 ≤ s) (hs' : s ≤ 65535) (hd : 0 ≤ dr) (hd' : dr ≤ 99) (hm : 0 ≤ m) (hm' : m ≤ 99999) (hl : ∀ c ∈ l, Good s dr c) (hn : 0 < l.length) (hn' : l.length ≤ 16) : ∃ a b e, timeR l (500 * dr) 0 (1000 * m) = (a, b, e) ∧ (e = 21 ∨ e = 0 ∧ (tms 0 (1000 * m) (1000 * dr) l).1 ≤ a ∧ b ≤ (tms 0 (1000 * m) (1000 * dr) l).2) := by
  have h0 := life_zero hl
  have hh := fold_half (clock := 1000 * m) (d := 1000 * dr) (d' := 500 * dr) l (-9223372036854775808, 9223372036854775807) (-9223372036854775808, 9223372036854775807) (fun c hc => by
    refine ⟨h0 c hc, ?_⟩
    obtain ⟨t0, t1, t2, _, _, _, rfl⟩ := hl c hc
    have e : 1000 * m - 1000 * t0 = 1000 * (m - t0) := by omega
    have := half (m - t0) dr hd
    unfold atLo atHi mk
    simp only
    rw [e]
    omega) ⟨Int.le_refl _, Int.le_refl _⟩
  unfold timeR
  rw [if_neg (by rw [chk_of hn' (by omega) fun c hc => good_zero hs hs' hd hd' (hl c hc)]; simp), if_neg (by omega), if_neg (by rw [has_of hn h0]; simp)]
  split
  · exact ⟨_, _, _, rfl, .inl rfl⟩
  · exact ⟨_, _, _, rfl, .inr ⟨rfl, hh⟩⟩
theorem agrees {s dr : Int} {l : List Ck} (hs : 0 ≤ s) (hs' : s ≤ 65535) (hd : 0 ≤ dr) (hd' : dr ≤ 99) (hl : ∀ c ∈ l, Good s dr c) (hn' : l.length ≤ 16) {a b e : Int} (h : AgreeIs l (1000 * dr) a b e) : a = -1 ∧ b = -1 ∧ e = 0 := by
  rcases h with ⟨h1, _⟩ | ⟨_, h2, h3, h4, _⟩ | ⟨_, _, i, k, hi, hk, _, _, _, hc, _⟩
  · exact absurd (chk_of hn' (by omega) fun c hc => good_zero hs hs' hd hd' (hl c hc)) h1
  · exact ⟨h3, h4, h2⟩
  · exfalso
    obtain ⟨t0, t1, t2, ⟨a0, a1⟩, ⟨b0, b1⟩, ⟨c0, c1⟩, ek⟩ := hl l[k] (List.getElem_mem hk)
    have hr := in_range hs hd (hl l[i] (List.getElem_mem hi)) t0 a0
    have hcl := hc.2
    have m0 : 0 ≤ t0 * dr := Int.mul_nonneg a0 hd
    rw [ek] at hcl
    have e1 : (mk s dr t0 t1 t2).clock = 1000 * t0 := rfl
    have e2 : (mk s dr t0 t1 t2).lo = max (s + 1000 * t0 + t0 * dr - t1) 0 := rfl
    have e3 : (mk s dr t0 t1 t2).hi = s + 1000 * t0 + t0 * dr + t2 := rfl
    rw [e1, e2, e3] at hcl
    omega
/-- One check less has a range around the other one. -/
theorem second {s dr m : Int} {l : List Ck} (hs : 0 ≤ s) (hs' : s ≤ 65535) (hd : 0 ≤ dr) (hd' : dr ≤ 99) (hm : 0 ≤ m) (hm' : m ≤ 99999) (hl : ∀ c ∈ l, Good s dr c) (k : Nat) (hk : l.length = k + 1) (hk0 : 0 < k) (hn' : l.length ≤ 16) :
    timeR (l.take k) (1000 * dr) 0 (1000 * m) = ((tms 0 (1000 * m) (1000 * dr) (l.take k)).1, (tms 0 (1000 * m) (1000 * dr) (l.take k)).2, 0) ∧
    (tms 0 (1000 * m) (1000 * dr) (l.take k)).1 ≤ (tms 0 (1000 * m) (1000 * dr) l).1 ∧ (tms 0 (1000 * m) (1000 * dr) l).2 ≤ (tms 0 (1000 * m) (1000 * dr) (l.take k)).2 := by
  have hlt : (l.take k).length = k := by simp; omega
  refine ⟨(first hs hs' hd hd' hm hm' (fun c hc => hl c (List.mem_of_mem_take hc)) (by omega) (by omega)).1, ?_⟩
  have e : tms 0 (1000 * m) (1000 * dr) l = (l.drop k).foldl (tm 0 (1000 * m) (1000 * dr)) (tms 0 (1000 * m) (1000 * dr) (l.take k)) := by
    unfold tms
    rw [← List.foldl_append, List.take_append_drop]
  rw [e]
  exact fold_less _ _ fun c hc => life_zero hl c (List.mem_of_mem_drop hc)
theorem nothing (d clock : Int) (h : 0 ≤ d ∧ d ≤ 100000) (hc : 0 ≤ clock ∧ clock ≤ 1099511627776) : timeR [] d 0 clock = (0, 0, 5) := by
  unfold timeR
  rw [if_neg (by rw [chk_of (by simp) h (by simp)]; simp), if_neg (by omega), if_pos (show has 0 [] = false from rfl)]
end Go.Proofs.Ytkdmdoipjhcmgaa.truth
