/- Fractions in lowest terms: what sums, products and inverses come to. Plain mathematics. How many bits fractions have. Plain mathematics. Comparisons of fractions by whole numbers. Plain mathematics. -/
namespace Go.Proofs.YtlncagdekfjinaaGreatDoor
namespace Fr
def sg (s : Bool) (n : Nat) : Int := if s then -(n : Int) else n
theorem sg_abs (s : Bool) (n : Nat) : (sg s n).natAbs = n := by unfold sg; split <;> omega
theorem sg_zero (s : Bool) : sg s 0 = 0 := by cases s <;> rfl
theorem sg_neg (s : Bool) (n : Nat) : sg (!s) n = - sg s n := by cases s <;> simp [sg]
theorem sg_lt {s : Bool} {n : Nat} (h : n ≠ 0) : decide (sg s n < 0) = s := by
  unfold sg; cases s
  · simp
  · simp; omega
theorem sg_mul (s t : Bool) (m n : Nat) : sg s m * sg t n = sg (s != t) (m * n) := by
  unfold sg; cases s <;> cases t <;> simp [Int.neg_mul, Int.mul_neg]
def neg (q : Rat) : Bool := decide (q.num < 0)
def top (q : Rat) : Nat := q.num.natAbs
theorem sg_num (q : Rat) : sg (neg q) (top q) = q.num := by
  unfold sg neg top; by_cases h : q.num < 0
  · simp [h]; omega
  · simp [h]; omega
def frac (s : Bool) (n d : Nat) : Rat := mkRat (sg s n) d
theorem frac_self (q : Rat) : frac (neg q) (top q) q.den = q := by unfold frac; rw [sg_num]; exact Rat.mkRat_self q
theorem frac_red {s : Bool} {n d : Nat} (hd : d ≠ 0) (h : Nat.Coprime n d) : (frac s n d).num = sg s n ∧ (frac s n d).den = d := by
  have e := Rat.mkRat_self ⟨sg s n, d, hd, by rw [sg_abs]; exact h⟩
  unfold frac
  rw [show mkRat (sg s n) d = _ from e]
  exact ⟨rfl, rfl⟩
theorem frac_zero (s : Bool) (d : Nat) : frac s 0 d = 0 := by unfold frac; rw [sg_zero]; exact Rat.zero_mkRat d
theorem frac_top {s : Bool} {n d : Nat} (hd : d ≠ 0) (h : Nat.Coprime n d) : top (frac s n d) = n := by unfold top; rw [(frac_red hd h).1, sg_abs]
theorem frac_neg {s : Bool} {n d : Nat} (hd : d ≠ 0) (h : Nat.Coprime n d) (hn : n ≠ 0) : neg (frac s n d) = s := by unfold neg; rw [(frac_red hd h).1]; exact sg_lt hn
theorem frac_cancel {s : Bool} {n d g : Nat} (hg : g ≠ 0) : frac s (n * g) (d * g) = frac s n d := by
  unfold frac
  rw [show sg s (n * g) = sg s n * g by unfold sg; split <;> simp [Int.neg_mul]]
  exact Rat.mkRat_mul_right hg
theorem frac_lowest {s : Bool} {n d : Nat} (hd : d ≠ 0) : frac s (n / Nat.gcd n d) (d / Nat.gcd n d) = frac s n d ∧ Nat.Coprime (n / Nat.gcd n d) (d / Nat.gcd n d) ∧ d / Nat.gcd n d ≠ 0 := by
  have hg : 0 < Nat.gcd n d := Nat.gcd_pos_of_pos_right _ (by omega)
  have h1 := Nat.div_mul_cancel (Nat.gcd_dvd_left n d)
  have h2 := Nat.div_mul_cancel (Nat.gcd_dvd_right n d)
  refine ⟨?_, Nat.coprime_div_gcd_div_gcd hg, ?_⟩
  · have := frac_cancel (s := s) (n := n / Nat.gcd n d) (d := d / Nat.gcd n d) (g := Nat.gcd n d) (by omega)
    rw [h1, h2] at this; exact this.symm
  · intro h; rw [h] at h2; omega
theorem den_ne (q : Rat) : q.den ≠ 0 := q.den_nz
theorem red (q : Rat) : Nat.Coprime (top q) q.den := q.reduced
theorem top_zero {q : Rat} : top q = 0 ↔ q = 0 := by
  unfold top; rw [Int.natAbs_eq_zero]; exact Rat.num_eq_zero
theorem frac_mul {s t : Bool} {m n d e : Nat} : frac s m d * frac t n e = frac (s != t) (m * n) (d * e) := by
  unfold frac; rw [Rat.mkRat_mul_mkRat, sg_mul]
theorem frac_opp (s : Bool) (n d : Nat) : - frac s n d = frac (!s) n d := by unfold frac; rw [sg_neg, Rat.neg_mkRat]
theorem knuth {x y : Rat} {g u v T : Nat} {s : Bool} (hg : g = Nat.gcd x.den y.den) (hu : u = y.den / g) (hv : v = x.den / g)
    (hT : sg s T = x.num * u + y.num * v) :
    x + y = frac s (T / Nat.gcd T g) (v * (y.den / Nat.gcd T g)) ∧ Nat.Coprime (T / Nat.gcd T g) (v * (y.den / Nat.gcd T g)) ∧ v * (y.den / Nat.gcd T g) ≠ 0 := by
  have hdx := den_ne x
  have hdy := den_ne y
  have hgp : 0 < g := by rw [hg]; exact Nat.gcd_pos_of_pos_left _ (by omega)
  have eu : u * g = y.den := by rw [hu, hg]; exact Nat.div_mul_cancel (Nat.gcd_dvd_right ..)
  have ev : v * g = x.den := by rw [hv, hg]; exact Nat.div_mul_cancel (Nat.gcd_dvd_left ..)
  have huv : Nat.Coprime v u := by rw [hu, hv, hg]; exact Nat.coprime_div_gcd_div_gcd (by rw [← hg]; exact hgp)
  have hTI : (sg s T).natAbs = T := sg_abs s T
  -- T has nothing in common with u or v
  have cv : Nat.Coprime T v := by
    have h1 : Nat.Coprime (x.num * u).natAbs v := by
      rw [Int.natAbs_mul]
      have hx : Nat.Coprime (top x) v := Nat.Coprime.coprime_dvd_right ⟨g, ev.symm⟩ (red x)
      exact Nat.Coprime.mul_left hx (by simpa using huv.symm)
    have h2 : Nat.gcd T v ∣ (x.num * u).natAbs := by
      have a : (Nat.gcd T v : Int) ∣ sg s T := by
        have := Nat.gcd_dvd_left T v
        rw [← Int.natCast_dvd_natCast] at this
        rw [← Int.dvd_natAbs, hTI]; exact this
      have b : (Nat.gcd T v : Int) ∣ y.num * v := Int.dvd_mul_of_dvd_right (Int.natCast_dvd_natCast.2 (Nat.gcd_dvd_right T v))
      have c : (Nat.gcd T v : Int) ∣ x.num * u := by
        have := Int.dvd_sub a b
        rw [hT, Int.add_sub_cancel] at this; exact this
      exact Int.natCast_dvd_natCast.1 (Int.dvd_natAbs.2 c)
    have h3 := Nat.dvd_gcd h2 (Nat.gcd_dvd_right T v)
    rw [h1] at h3
    exact Nat.dvd_one.1 h3
  have cu : Nat.Coprime T u := by
    have h1 : Nat.Coprime (y.num * v).natAbs u := by
      rw [Int.natAbs_mul]
      have hy : Nat.Coprime (top y) u := Nat.Coprime.coprime_dvd_right ⟨g, eu.symm⟩ (red y)
      exact Nat.Coprime.mul_left hy (by simpa using huv)
    have h2 : Nat.gcd T u ∣ (y.num * v).natAbs := by
      have a : (Nat.gcd T u : Int) ∣ sg s T := by
        have := Nat.gcd_dvd_left T u
        rw [← Int.natCast_dvd_natCast] at this
        rw [← Int.dvd_natAbs, hTI]; exact this
      have b : (Nat.gcd T u : Int) ∣ x.num * u := Int.dvd_mul_of_dvd_right (Int.natCast_dvd_natCast.2 (Nat.gcd_dvd_right T u))
      have c : (Nat.gcd T u : Int) ∣ y.num * v := by
        have := Int.dvd_sub a b
        rw [hT, Int.add_comm, Int.add_sub_cancel] at this; exact this
      exact Int.natCast_dvd_natCast.1 (Int.dvd_natAbs.2 c)
    have h3 := Nat.dvd_gcd h2 (Nat.gcd_dvd_right T u)
    rw [h1] at h3
    exact Nat.dvd_one.1 h3
  have hc : Nat.gcd T (v * y.den) = Nat.gcd T g := by
    rw [← eu, ← Nat.mul_assoc]
    exact Nat.Coprime.gcd_mul_left_cancel_right g (Nat.Coprime.mul_right cv cu).symm
  have hl : Nat.gcd T g ∣ y.den := Nat.dvd_trans (Nat.gcd_dvd_right T g) ⟨u, by rw [← eu, Nat.mul_comm]⟩
  have hd : v * (y.den / Nat.gcd T g) = v * y.den / Nat.gcd T (v * y.den) := by rw [hc, Nat.mul_div_assoc _ hl]
  have hvy : v * y.den ≠ 0 := by
    intro h
    rcases Nat.mul_eq_zero.1 h with h | h
    · rw [h, Nat.zero_mul] at ev; omega
    · exact hdy h
  obtain ⟨l1, l2, l3⟩ := frac_lowest (s := s) (n := T) hvy
  rw [hd, ← hc]
  refine ⟨?_, l2, l3⟩
  rw [l1]
  have e1 : x + y = mkRat (x.num * y.den + y.num * x.den) (x.den * y.den) := by
    conv => lhs; rw [← Rat.mkRat_self x, ← Rat.mkRat_self y]
    exact Rat.mkRat_add_mkRat _ _ hdx hdy
  rw [e1]
  have e2 : x.num * (y.den : Int) + y.num * (x.den : Int) = sg s T * (g : Int) := by
    rw [hT, ← eu, ← ev, Int.natCast_mul, Int.natCast_mul]; grind
  have e3 : x.den * y.den = v * y.den * g := by rw [← ev]; grind
  rw [e2, e3]
  exact Rat.mkRat_mul_right (by omega)
theorem prod {x y : Rat} {g h : Nat} (hg : g = Nat.gcd (top x) y.den) (hh : h = Nat.gcd (top y) x.den) :
    x * y = frac (neg x != neg y) (top x / g * (top y / h)) (x.den / h * (y.den / g)) ∧ Nat.Coprime (top x / g * (top y / h)) (x.den / h * (y.den / g)) ∧ x.den / h * (y.den / g) ≠ 0 := by
  have hdx := den_ne x
  have hdy := den_ne y
  obtain ⟨_, a2, a3⟩ := frac_lowest (s := false) (n := top x) hdy
  obtain ⟨_, b2, b3⟩ := frac_lowest (s := false) (n := top y) hdx
  rw [← hg] at a2 a3
  rw [← hh] at b2 b3
  have hgp : 0 < g := by rw [hg]; exact Nat.gcd_pos_of_pos_right _ (by omega)
  have hhp : 0 < h := by rw [hh]; exact Nat.gcd_pos_of_pos_right _ (by omega)
  have e1 : top x / g * g = top x := by rw [hg]; exact Nat.div_mul_cancel (Nat.gcd_dvd_left ..)
  have e2 : y.den / g * g = y.den := by rw [hg]; exact Nat.div_mul_cancel (Nat.gcd_dvd_right ..)
  have e3 : top y / h * h = top y := by rw [hh]; exact Nat.div_mul_cancel (Nat.gcd_dvd_left ..)
  have e4 : x.den / h * h = x.den := by rw [hh]; exact Nat.div_mul_cancel (Nat.gcd_dvd_right ..)
  refine ⟨?_, ?_, Nat.mul_ne_zero b3 a3⟩
  · have m1 : top x * top y = top x / g * (top y / h) * (g * h) := by
      conv => lhs; rw [← e1, ← e3]
      generalize top x / g = a; generalize top y / h = b
      grind
    have m2 : x.den * y.den = x.den / h * (y.den / g) * (g * h) := by
      conv => lhs; rw [← e2, ← e4]
      generalize x.den / h = a; generalize y.den / g = b
      grind
    have m3 : x * y = frac (neg x != neg y) (top x * top y) (x.den * y.den) := by rw [← frac_mul, frac_self, frac_self]
    rw [m3, m1, m2]
    exact frac_cancel (Nat.mul_ne_zero (by omega) (by omega))
  · have c1 : Nat.Coprime (top x / g) (x.den / h) := Nat.Coprime.coprime_dvd_left ⟨g, e1.symm⟩ (Nat.Coprime.coprime_dvd_right ⟨h, e4.symm⟩ (red x))
    have c2 : Nat.Coprime (top y / h) (y.den / g) := Nat.Coprime.coprime_dvd_left ⟨h, e3.symm⟩ (Nat.Coprime.coprime_dvd_right ⟨g, e2.symm⟩ (red y))
    exact Nat.Coprime.mul_left (Nat.Coprime.mul_right c1 a2) (Nat.Coprime.mul_right b2 c2)
theorem inv (x : Rat) (h : x ≠ 0) : x⁻¹ = frac (neg x) x.den (top x) ∧ Nat.Coprime x.den (top x) ∧ top x ≠ 0 := by
  have ht : top x ≠ 0 := fun e => h (top_zero.1 e)
  refine ⟨?_, (red x).symm, ht⟩
  have e1 : x * frac (neg x) x.den (top x) = 1 := by
    conv => lhs; rw [show x * frac (neg x) x.den (top x) = frac (neg x) (top x) x.den * frac (neg x) x.den (top x) by rw [frac_self]]
    rw [frac_mul]
    have : (neg x != neg x) = false := by simp
    rw [this, Nat.mul_comm]
    unfold frac sg
    have hm : x.den * top x ≠ 0 := Nat.mul_ne_zero (den_ne x) ht
    have := Rat.mkRat_mul_right (n := 1) (d := 1) hm
    simp only [Int.one_mul, Nat.one_mul] at this
    simp only [Bool.false_eq_true, if_false]
    rw [this]; rfl
  grind
def cmpQ (x y : Rat) : Int := if x < y then -1 else if y < x then 1 else 0
def signQ (x : Rat) : Int := if x.num < 0 then -1 else if 0 < x.num then 1 else 0
theorem signQ_eq (x : Rat) : signQ x = if top x = 0 then 0 else if neg x then -1 else 1 := by
  unfold signQ top neg
  by_cases h : x.num < 0
  · have h0 : x.num ≠ 0 := by omega
    simp [h, h0]
  · by_cases h0 : x.num = 0
    · simp [h0]
    · have : 0 < x.num := by omega
      simp [h, this, h0]
end Fr
end Go.Proofs.YtlncagdekfjinaaGreatDoor
namespace Go.Proofs.YtlncagdekfjinaaGreatDoor
namespace Fr
def Fit (k : Nat) (q : Rat) : Prop := q.num.natAbs < 2 ^ k ∧ q.den < 2 ^ k
theorem Fit.mono {j k : Nat} {q : Rat} (h : Fit j q) (hjk : j ≤ k) : Fit k q :=
  ⟨Nat.lt_of_lt_of_le h.1 (Nat.pow_le_pow_right (by omega) hjk), Nat.lt_of_lt_of_le h.2 (Nat.pow_le_pow_right (by omega) hjk)⟩
theorem mkRat_le (n : Int) (d : Nat) (hd : d ≠ 0) : (mkRat n d).num.natAbs ≤ n.natAbs ∧ (mkRat n d).den ≤ d := by
  rw [Rat.num_mkRat, Rat.den_mkRat]
  constructor
  · rw [if_neg hd]; exact Int.natAbs_ediv_le_natAbs _ _
  · rw [if_neg hd]; exact Nat.div_le_self _ _
theorem Fit.mkRat {k : Nat} {n : Int} {d : Nat} (hd : d ≠ 0) (h1 : n.natAbs < 2 ^ k) (h2 : d < 2 ^ k) : Fit k (mkRat n d) :=
  ⟨Nat.lt_of_le_of_lt (mkRat_le n d hd).1 h1, Nat.lt_of_le_of_lt (mkRat_le n d hd).2 h2⟩
theorem rat_add (x y : Rat) : x + y = mkRat (x.num * y.den + y.num * x.den) (x.den * y.den) := by
  conv => lhs; rw [← Rat.mkRat_self x, ← Rat.mkRat_self y]
  exact Rat.mkRat_add_mkRat _ _ x.den_nz y.den_nz
theorem rat_mul (x y : Rat) : x * y = mkRat (x.num * y.num) (x.den * y.den) := by
  conv => lhs; rw [← Rat.mkRat_self x, ← Rat.mkRat_self y]
  exact Rat.mkRat_mul_mkRat ..
theorem Fit.mul {i j : Nat} {x y : Rat} (hx : Fit i x) (hy : Fit j y) : Fit (i + j) (x * y) := by
  rw [rat_mul]
  refine Fit.mkRat (Nat.mul_ne_zero x.den_nz y.den_nz) ?_ ?_
  · rw [Int.natAbs_mul, Nat.pow_add]; exact Nat.mul_lt_mul'' hx.1 hy.1
  · rw [Nat.pow_add]; exact Nat.mul_lt_mul'' hx.2 hy.2
theorem Fit.add {i j : Nat} {x y : Rat} (hx : Fit i x) (hy : Fit j y) : Fit (i + j + 1) (x + y) := by
  rw [rat_add]
  refine Fit.mkRat (Nat.mul_ne_zero x.den_nz y.den_nz) ?_ ?_
  · have h1 : (x.num * (y.den : Int)).natAbs < 2 ^ i * 2 ^ j := by rw [Int.natAbs_mul]; exact Nat.mul_lt_mul'' hx.1 (by simpa using hy.2)
    have h2 : (y.num * (x.den : Int)).natAbs < 2 ^ i * 2 ^ j := by rw [Int.natAbs_mul, Nat.mul_comm]; exact Nat.mul_lt_mul'' (by simpa using hx.2) hy.1
    have h3 := Int.natAbs_add_le (x.num * (y.den : Int)) (y.num * (x.den : Int))
    rw [Nat.pow_succ, Nat.pow_add]; omega
  · have h1 := Nat.mul_lt_mul'' hx.2 hy.2
    rw [Nat.pow_succ, Nat.pow_add]; omega
theorem Fit.neg {i : Nat} {x : Rat} (hx : Fit i x) : Fit i (-x) := by
  refine ⟨?_, hx.2⟩
  show (-x.num).natAbs < _
  rw [Int.natAbs_neg]; exact hx.1
theorem Fit.sub {i j : Nat} {x y : Rat} (hx : Fit i x) (hy : Fit j y) : Fit (i + j + 1) (x - y) := by
  rw [Rat.sub_eq_add_neg]; exact hx.add hy.neg
theorem Fit.int {k : Nat} {n : Int} (h : n.natAbs < 2 ^ k) (hk : 1 ≤ k) : Fit k (n : Rat) :=
  ⟨h, by show 1 < 2 ^ k; exact Nat.lt_of_lt_of_le (by decide : 1 < 2 ^ 1) (Nat.pow_le_pow_right (by omega) hk)⟩
theorem Fit.zero {k : Nat} (hk : 1 ≤ k) : Fit k 0 := Fit.int (n := 0) (Nat.two_pow_pos k) hk
theorem inv_parts (x : Rat) : (x⁻¹).num.natAbs = (if x.num = 0 then 0 else x.den) ∧ (x⁻¹).den = (if x.num = 0 then 1 else x.num.natAbs) := by
  by_cases h : x = 0
  · subst h; rw [Rat.inv_zero]; exact ⟨rfl, rfl⟩
  · have h0 : x.num ≠ 0 := fun e => h (Rat.num_eq_zero.1 e)
    rw [if_neg h0, if_neg h0, Rat.inv_def]
    have hr : Nat.Coprime x.den x.num.natAbs := x.reduced.symm
    rcases Int.lt_or_gt_of_ne h0 with hn | hp
    · have e : Rat.divInt (x.den : Int) x.num = mkRat (-(x.den : Int)) x.num.natAbs := by
        have h1 : x.num = -(x.num.natAbs : Int) := by omega
        conv => lhs; rw [h1]
        rw [Rat.divInt_neg', Rat.divInt_ofNat]
      have h2 := Rat.mkRat_self ⟨-(x.den : Int), x.num.natAbs, by omega, by simpa using hr⟩
      rw [e, show mkRat (-(x.den : Int)) x.num.natAbs = _ from h2]
      simp
    · have e : Rat.divInt (x.den : Int) x.num = mkRat (x.den : Int) x.num.natAbs := by
        have h1 : x.num = (x.num.natAbs : Int) := by omega
        conv => lhs; rw [h1]
        rw [Rat.divInt_ofNat]
      have h2 := Rat.mkRat_self ⟨(x.den : Int), x.num.natAbs, by omega, by simpa using hr⟩
      rw [e, show mkRat (x.den : Int) x.num.natAbs = _ from h2]
      simp
theorem Fit.inv {k : Nat} {x : Rat} (h : Fit k x) (hk : 1 ≤ k) : Fit k x⁻¹ := by
  obtain ⟨h1, h2⟩ := inv_parts x
  have hp : 1 < 2 ^ k := Nat.lt_of_lt_of_le (by decide : 1 < 2 ^ 1) (Nat.pow_le_pow_right (by omega) hk)
  unfold Fit
  rw [h1, h2]
  split
  · exact ⟨by omega, hp⟩
  · exact ⟨h.2, h.1⟩
theorem Fit.div {i j : Nat} {x y : Rat} (hx : Fit i x) (hy : Fit j y) (hj : 1 ≤ j) : Fit (i + j) (x / y) := by
  rw [Rat.div_def]; exact hx.mul (hy.inv hj)
end Fr
end Go.Proofs.YtlncagdekfjinaaGreatDoor
namespace Go.Proofs.YtlncagdekfjinaaGreatDoor
namespace Fr
theorem cmpQ_num (x y : Rat) : cmpQ x y = if x.num * y.den < y.num * x.den then -1 else if y.num * x.den < x.num * y.den then 1 else 0 := by
  unfold cmpQ
  simp only [Rat.lt_iff]
theorem signQ_cases (x : Rat) : (signQ x = -1 ∧ x.num < 0) ∨ (signQ x = 0 ∧ x.num = 0) ∨ (signQ x = 1 ∧ 0 < x.num) := by
  unfold signQ
  by_cases h : x.num < 0
  · left; simp [h]
  · by_cases h0 : 0 < x.num
    · right; right; simp [h, h0]
    · right; left; exact ⟨by simp [h, h0], by omega⟩
theorem cmp_signs {x y : Rat} (h : signQ x ≠ signQ y) : (if signQ x < signQ y then -1 else if signQ y < signQ x then 1 else 0 : Int) = cmpQ x y := by
  rw [cmpQ_num]
  have hd : (0 : Int) < y.den := by have := y.den_nz; omega
  have hc : (0 : Int) < x.den := by have := x.den_nz; omega
  have n1 : ∀ {a : Int}, a < 0 → a * y.den < 0 := fun h => Int.mul_neg_of_neg_of_pos h hd
  have n2 : ∀ {a : Int}, a < 0 → a * x.den < 0 := fun h => Int.mul_neg_of_neg_of_pos h hc
  have p1 : ∀ {a : Int}, 0 < a → 0 < a * y.den := fun h => Int.mul_pos h hd
  have p2 : ∀ {a : Int}, 0 < a → 0 < a * x.den := fun h => Int.mul_pos h hc
  rcases signQ_cases x with ⟨e, hx⟩ | ⟨e, hx⟩ | ⟨e, hx⟩ <;> rcases signQ_cases y with ⟨e', hy⟩ | ⟨e', hy⟩ | ⟨e', hy⟩ <;> rw [e, e'] at h ⊢ <;> first | exact absurd rfl h | skip
  · rw [hy, Int.zero_mul, if_pos (n1 hx)]; rfl
  · rw [if_pos (Int.lt_trans (n1 hx) (p2 hy))]; rfl
  · rw [hx, Int.zero_mul, if_neg (Int.lt_asymm (n2 hy)), if_pos (n2 hy)]; rfl
  · rw [hx, Int.zero_mul, if_pos (p2 hy)]; rfl
  · have k := Int.lt_trans (n2 hy) (p1 hx)
    rw [if_neg (Int.lt_asymm k), if_pos k]; rfl
  · rw [hy, Int.zero_mul, if_neg (Int.lt_asymm (p1 hx)), if_pos (p1 hx)]; rfl
theorem cmp_tops {x y : Rat} (h : signQ x = signQ y) : signQ x * (if top x * y.den < top y * x.den then -1 else if top y * x.den < top x * y.den then 1 else 0 : Int) = cmpQ x y := by
  rw [cmpQ_num]
  have t1 : ∀ {q : Rat}, q.num < 0 → q.num = -(top q : Int) := fun h => by unfold top; omega
  have t2 : ∀ {q : Rat}, 0 < q.num → q.num = (top q : Int) := fun h => by unfold top; omega
  rcases signQ_cases x with ⟨e, hx⟩ | ⟨e, hx⟩ | ⟨e, hx⟩ <;> rcases signQ_cases y with ⟨e', hy⟩ | ⟨e', hy⟩ | ⟨e', hy⟩ <;> rw [e, e'] at h <;> first | (exfalso; revert h; decide) | skip
  · rw [e, t1 hx, t1 hy]
    have k1 : -(top x : Int) * (y.den : Int) = -((top x * y.den : Nat) : Int) := by rw [Int.natCast_mul, Int.neg_mul]
    have k2 : -(top y : Int) * (x.den : Int) = -((top y * x.den : Nat) : Int) := by rw [Int.natCast_mul, Int.neg_mul]
    rw [k1, k2]
    generalize top x * y.den = p; generalize top y * x.den = q
    by_cases h1 : p < q
    · have a1 : ¬ (-(p : Int) < -(q : Int)) := by omega
      have a2 : -(q : Int) < -(p : Int) := by omega
      simp [h1, a1, a2]
    · by_cases h2 : q < p
      · have a1 : -(p : Int) < -(q : Int) := by omega
        simp [h1, h2, a1]
      · have a1 : ¬ (-(p : Int) < -(q : Int)) := by omega
        have a2 : ¬ (-(q : Int) < -(p : Int)) := by omega
        simp [h1, h2, a1, a2]
  · rw [e, hx, hy]; simp
  · rw [e, t2 hx, t2 hy]
    have k1 : (top x : Int) * (y.den : Int) = ((top x * y.den : Nat) : Int) := by rw [Int.natCast_mul]
    have k2 : (top y : Int) * (x.den : Int) = ((top y * x.den : Nat) : Int) := by rw [Int.natCast_mul]
    rw [k1, k2, Int.one_mul]
    simp only [Int.ofNat_lt]
end Fr
end Go.Proofs.YtlncagdekfjinaaGreatDoor
