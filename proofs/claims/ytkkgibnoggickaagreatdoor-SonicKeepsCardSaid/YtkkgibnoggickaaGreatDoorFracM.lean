/- Fractions in lowest terms: what sums, products and inverses come to. Plain mathematics. -/
namespace Go.Proofs.YtkkgibnoggickaaGreatDoor
namespace Fr

/-- A number with a sign. -/
def sg (s : Bool) (n : Nat) : Int := if s then -(n : Int) else n
theorem sg_abs (s : Bool) (n : Nat) : (sg s n).natAbs = n := by unfold sg; split <;> omega
theorem sg_zero (s : Bool) : sg s 0 = 0 := by cases s <;> rfl
theorem sg_neg (s : Bool) (n : Nat) : sg (!s) n = - sg s n := by cases s <;> simp [sg]
theorem sg_lt {s : Bool} {n : Nat} (h : n ≠ 0) : decide (sg s n < 0) = s := by
  unfold sg; cases s
  · simp
  · simp; omega
theorem sg_mul (s t : Bool) (m n : Nat) : sg s m * sg t n = sg (s != t) (m * n) := by
  unfold sg; cases s <;> cases t <;> simp [Int.neg_mul, Int.mul_neg]
/-- A fraction's sign. -/
def neg (q : Rat) : Bool := decide (q.num < 0)
/-- Its numerator without sign. -/
def top (q : Rat) : Nat := q.num.natAbs
theorem sg_num (q : Rat) : sg (neg q) (top q) = q.num := by
  unfold sg neg top; by_cases h : q.num < 0
  · simp [h]; omega
  · simp [h]; omega

/-- The fraction n/d with a sign. -/
def frac (s : Bool) (n d : Nat) : Rat := mkRat (sg s n) d
theorem frac_self (q : Rat) : frac (neg q) (top q) q.den = q := by unfold frac; rw [sg_num]; exact Rat.mkRat_self q
theorem frac_red {s : Bool} {n d : Nat} (hd : d ≠ 0) (h : Nat.Coprime n d) : (frac s n d).num = sg s n ∧ (frac s n d).den = d := by
  have e := Rat.mkRat_self ⟨sg s n, d, hd, by rw [sg_abs]; exact h⟩
  unfold frac
  rw [show mkRat (sg s n) d = _ from e]
  exact ⟨rfl, rfl⟩
theorem frac_zero (s : Bool) (d : Nat) : frac s 0 d = 0 := by unfold frac; rw [sg_zero]; exact Rat.zero_mkRat d
theorem frac_top {s : Bool} {n d : Nat} (hd : d ≠ 0) (h : Nat.Coprime n d) : top (frac s n d) = n := by unfold top; rw [(frac_red hd h).1, sg_abs]
theorem frac_neg {s : Bool} {n d : Nat} (hd : d ≠ 0) (h : Nat.Coprime n d) (hn : n ≠ 0) : neg (frac s n d) = s := by unfold neg; rw [(frac_red hd h).1]; exact sg_lt hn
theorem frac_cancel {s : Bool} {n d g : Nat} (hg : g ≠ 0) : frac s (n * g) (d * g) = frac s n d := by
  unfold frac
  rw [show sg s (n * g) = sg s n * g by unfold sg; split <;> simp [Int.neg_mul]]
  exact Rat.mkRat_mul_right hg
/-- In lowest terms. -/
theorem frac_lowest {s : Bool} {n d : Nat} (hd : d ≠ 0) : frac s (n / Nat.gcd n d) (d / Nat.gcd n d) = frac s n d ∧ Nat.Coprime (n / Nat.gcd n d) (d / Nat.gcd n d) ∧ d / Nat.gcd n d ≠ 0 := by
  have hg : 0 < Nat.gcd n d := Nat.gcd_pos_of_pos_right _ (by omega)
  have h1 := Nat.div_mul_cancel (Nat.gcd_dvd_left n d)
  have h2 := Nat.div_mul_cancel (Nat.gcd_dvd_right n d)
  refine ⟨?_, Nat.coprime_div_gcd_div_gcd hg, ?_⟩
  · have := frac_cancel (s := s) (n := n / Nat.gcd n d) (d := d / Nat.gcd n d) (g := Nat.gcd n d) (by omega)
    rw [h1, h2] at this; exact this.symm
  · intro h; rw [h] at h2; omega

theorem den_ne (q : Rat) : q.den ≠ 0 := q.den_nz
theorem red (q : Rat) : Nat.Coprime (top q) q.den := q.reduced
theorem top_zero {q : Rat} : top q = 0 ↔ q = 0 := by
  unfold top; rw [Int.natAbs_eq_zero]; exact Rat.num_eq_zero
theorem neg_zero : neg 0 = false := rfl

theorem frac_add {s t : Bool} {m n d e : Nat} (hd : d ≠ 0) (he : e ≠ 0) : frac s m d + frac t n e = mkRat (sg s m * e + sg t n * d) (d * e) := by
  unfold frac; exact Rat.mkRat_add_mkRat _ _ hd he
theorem frac_mul {s t : Bool} {m n d e : Nat} : frac s m d * frac t n e = frac (s != t) (m * n) (d * e) := by
  unfold frac; rw [Rat.mkRat_mul_mkRat, sg_mul]
theorem frac_opp (s : Bool) (n d : Nat) : - frac s n d = frac (!s) n d := by unfold frac; rw [sg_neg, Rat.neg_mkRat]

/-- What Knuth's sum comes to: T is the sum of the numerators, each times what its denominator lacks. -/
theorem knuth {x y : Rat} {g u v T : Nat} {s : Bool} (hg : g = Nat.gcd x.den y.den) (hu : u = y.den / g) (hv : v = x.den / g)
    (hT : sg s T = x.num * u + y.num * v) :
    x + y = frac s (T / Nat.gcd T g) (v * (y.den / Nat.gcd T g)) ∧ Nat.Coprime (T / Nat.gcd T g) (v * (y.den / Nat.gcd T g)) ∧ v * (y.den / Nat.gcd T g) ≠ 0 := by
  have hdx := den_ne x
  have hdy := den_ne y
  have hgp : 0 < g := by rw [hg]; exact Nat.gcd_pos_of_pos_left _ (by omega)
  have eu : u * g = y.den := by rw [hu, hg]; exact Nat.div_mul_cancel (Nat.gcd_dvd_right ..)
  have ev : v * g = x.den := by rw [hv, hg]; exact Nat.div_mul_cancel (Nat.gcd_dvd_left ..)
  have huv : Nat.Coprime v u := by rw [hu, hv, hg]; exact Nat.coprime_div_gcd_div_gcd (by rw [← hg]; exact hgp)
  have hTI : (sg s T).natAbs = T := sg_abs s T
  -- T has nothing in common with u or v
  have cv : Nat.Coprime T v := by
    have h1 : Nat.Coprime (x.num * u).natAbs v := by
      rw [Int.natAbs_mul]
      have hx : Nat.Coprime (top x) v := Nat.Coprime.coprime_dvd_right ⟨g, ev.symm⟩ (red x)
      exact Nat.Coprime.mul_left hx (by simpa using huv.symm)
    have h2 : Nat.gcd T v ∣ (x.num * u).natAbs := by
      have a : (Nat.gcd T v : Int) ∣ sg s T := by
        have := Nat.gcd_dvd_left T v
        rw [← Int.natCast_dvd_natCast] at this
        rw [← Int.dvd_natAbs, hTI]; exact this
      have b : (Nat.gcd T v : Int) ∣ y.num * v := Int.dvd_mul_of_dvd_right (Int.natCast_dvd_natCast.2 (Nat.gcd_dvd_right T v))
      have c : (Nat.gcd T v : Int) ∣ x.num * u := by
        have := Int.dvd_sub a b
        rw [hT, Int.add_sub_cancel] at this; exact this
      exact Int.natCast_dvd_natCast.1 (Int.dvd_natAbs.2 c)
    have h3 := Nat.dvd_gcd h2 (Nat.gcd_dvd_right T v)
    rw [h1] at h3
    exact Nat.dvd_one.1 h3
  have cu : Nat.Coprime T u := by
    have h1 : Nat.Coprime (y.num * v).natAbs u := by
      rw [Int.natAbs_mul]
      have hy : Nat.Coprime (top y) u := Nat.Coprime.coprime_dvd_right ⟨g, eu.symm⟩ (red y)
      exact Nat.Coprime.mul_left hy (by simpa using huv)
    have h2 : Nat.gcd T u ∣ (y.num * v).natAbs := by
      have a : (Nat.gcd T u : Int) ∣ sg s T := by
        have := Nat.gcd_dvd_left T u
        rw [← Int.natCast_dvd_natCast] at this
        rw [← Int.dvd_natAbs, hTI]; exact this
      have b : (Nat.gcd T u : Int) ∣ x.num * u := Int.dvd_mul_of_dvd_right (Int.natCast_dvd_natCast.2 (Nat.gcd_dvd_right T u))
      have c : (Nat.gcd T u : Int) ∣ y.num * v := by
        have := Int.dvd_sub a b
        rw [hT, Int.add_comm, Int.add_sub_cancel] at this; exact this
      exact Int.natCast_dvd_natCast.1 (Int.dvd_natAbs.2 c)
    have h3 := Nat.dvd_gcd h2 (Nat.gcd_dvd_right T u)
    rw [h1] at h3
    exact Nat.dvd_one.1 h3
  have hc : Nat.gcd T (v * y.den) = Nat.gcd T g := by
    rw [← eu, ← Nat.mul_assoc]
    exact Nat.Coprime.gcd_mul_left_cancel_right g (Nat.Coprime.mul_right cv cu).symm
  have hl : Nat.gcd T g ∣ y.den := Nat.dvd_trans (Nat.gcd_dvd_right T g) ⟨u, by rw [← eu, Nat.mul_comm]⟩
  have hd : v * (y.den / Nat.gcd T g) = v * y.den / Nat.gcd T (v * y.den) := by rw [hc, Nat.mul_div_assoc _ hl]
  have hvy : v * y.den ≠ 0 := by
    intro h
    rcases Nat.mul_eq_zero.1 h with h | h
    · rw [h, Nat.zero_mul] at ev; omega
    · exact hdy h
  obtain ⟨l1, l2, l3⟩ := frac_lowest (s := s) (n := T) hvy
  rw [hd, ← hc]
  refine ⟨?_, l2, l3⟩
  rw [l1]
  have e1 : x + y = mkRat (x.num * y.den + y.num * x.den) (x.den * y.den) := by
    conv => lhs; rw [← Rat.mkRat_self x, ← Rat.mkRat_self y]
    exact Rat.mkRat_add_mkRat _ _ hdx hdy
  rw [e1]
  have e2 : x.num * (y.den : Int) + y.num * (x.den : Int) = sg s T * (g : Int) := by
    rw [hT, ← eu, ← ev, Int.natCast_mul, Int.natCast_mul]; grind
  have e3 : x.den * y.den = v * y.den * g := by rw [← ev]; grind
  rw [e2, e3]
  exact Rat.mkRat_mul_right (by omega)

/-- A product, each numerator and the other denominator in lowest terms. -/
theorem prod {x y : Rat} {g h : Nat} (hg : g = Nat.gcd (top x) y.den) (hh : h = Nat.gcd (top y) x.den) :
    x * y = frac (neg x != neg y) (top x / g * (top y / h)) (x.den / h * (y.den / g)) ∧ Nat.Coprime (top x / g * (top y / h)) (x.den / h * (y.den / g)) ∧ x.den / h * (y.den / g) ≠ 0 := by
  have hdx := den_ne x
  have hdy := den_ne y
  obtain ⟨_, a2, a3⟩ := frac_lowest (s := false) (n := top x) hdy
  obtain ⟨_, b2, b3⟩ := frac_lowest (s := false) (n := top y) hdx
  rw [← hg] at a2 a3
  rw [← hh] at b2 b3
  have hgp : 0 < g := by rw [hg]; exact Nat.gcd_pos_of_pos_right _ (by omega)
  have hhp : 0 < h := by rw [hh]; exact Nat.gcd_pos_of_pos_right _ (by omega)
  have e1 : top x / g * g = top x := by rw [hg]; exact Nat.div_mul_cancel (Nat.gcd_dvd_left ..)
  have e2 : y.den / g * g = y.den := by rw [hg]; exact Nat.div_mul_cancel (Nat.gcd_dvd_right ..)
  have e3 : top y / h * h = top y := by rw [hh]; exact Nat.div_mul_cancel (Nat.gcd_dvd_left ..)
  have e4 : x.den / h * h = x.den := by rw [hh]; exact Nat.div_mul_cancel (Nat.gcd_dvd_right ..)
  refine ⟨?_, ?_, Nat.mul_ne_zero b3 a3⟩
  · have m1 : top x * top y = top x / g * (top y / h) * (g * h) := by
      conv => lhs; rw [← e1, ← e3]
      generalize top x / g = a; generalize top y / h = b
      grind
    have m2 : x.den * y.den = x.den / h * (y.den / g) * (g * h) := by
      conv => lhs; rw [← e2, ← e4]
      generalize x.den / h = a; generalize y.den / g = b
      grind
    have m3 : x * y = frac (neg x != neg y) (top x * top y) (x.den * y.den) := by rw [← frac_mul, frac_self, frac_self]
    rw [m3, m1, m2]
    exact frac_cancel (Nat.mul_ne_zero (by omega) (by omega))
  · have c1 : Nat.Coprime (top x / g) (x.den / h) := Nat.Coprime.coprime_dvd_left ⟨g, e1.symm⟩ (Nat.Coprime.coprime_dvd_right ⟨h, e4.symm⟩ (red x))
    have c2 : Nat.Coprime (top y / h) (y.den / g) := Nat.Coprime.coprime_dvd_left ⟨h, e3.symm⟩ (Nat.Coprime.coprime_dvd_right ⟨g, e2.symm⟩ (red y))
    exact Nat.Coprime.mul_left (Nat.Coprime.mul_right c1 a2) (Nat.Coprime.mul_right b2 c2)

/-- The inverse. -/
theorem inv (x : Rat) (h : x ≠ 0) : x⁻¹ = frac (neg x) x.den (top x) ∧ Nat.Coprime x.den (top x) ∧ top x ≠ 0 := by
  have ht : top x ≠ 0 := fun e => h (top_zero.1 e)
  refine ⟨?_, (red x).symm, ht⟩
  have e1 : x * frac (neg x) x.den (top x) = 1 := by
    conv => lhs; rw [show x * frac (neg x) x.den (top x) = frac (neg x) (top x) x.den * frac (neg x) x.den (top x) by rw [frac_self]]
    rw [frac_mul]
    have : (neg x != neg x) = false := by simp
    rw [this, Nat.mul_comm]
    unfold frac sg
    have hm : x.den * top x ≠ 0 := Nat.mul_ne_zero (den_ne x) ht
    have := Rat.mkRat_mul_right (n := 1) (d := 1) hm
    simp only [Int.one_mul, Nat.one_mul] at this
    simp only [Bool.false_eq_true, if_false]
    rw [this]; rfl
  grind

/-- The sign of a difference. -/
def cmpQ (x y : Rat) : Int := if x < y then -1 else if y < x then 1 else 0
def signQ (x : Rat) : Int := if x.num < 0 then -1 else if 0 < x.num then 1 else 0
theorem signQ_eq (x : Rat) : signQ x = if top x = 0 then 0 else if neg x then -1 else 1 := by
  unfold signQ top neg
  by_cases h : x.num < 0
  · have h0 : x.num ≠ 0 := by omega
    simp [h, h0]
  · by_cases h0 : x.num = 0
    · simp [h0]
    · have : 0 < x.num := by omega
      simp [h, this, h0]
end Fr
end Go.Proofs.YtkkgibnoggickaaGreatDoor
