/- How many bits fractions have. Plain mathematics. -/
namespace Go.Proofs.YtkkgibnoggickaaGreatDoor
namespace Fr
/-- Numerator and denominator have at most k bits. -/
def Fit (k : Nat) (q : Rat) : Prop := q.num.natAbs < 2 ^ k ∧ q.den < 2 ^ k
theorem Fit.mono {j k : Nat} {q : Rat} (h : Fit j q) (hjk : j ≤ k) : Fit k q :=
  ⟨Nat.lt_of_lt_of_le h.1 (Nat.pow_le_pow_right (by omega) hjk), Nat.lt_of_lt_of_le h.2 (Nat.pow_le_pow_right (by omega) hjk)⟩
theorem mkRat_le (n : Int) (d : Nat) (hd : d ≠ 0) : (mkRat n d).num.natAbs ≤ n.natAbs ∧ (mkRat n d).den ≤ d := by
  rw [Rat.num_mkRat, Rat.den_mkRat]
  constructor
  · rw [if_neg hd]; exact Int.natAbs_ediv_le_natAbs _ _
  · rw [if_neg hd]; exact Nat.div_le_self _ _
theorem Fit.mkRat {k : Nat} {n : Int} {d : Nat} (hd : d ≠ 0) (h1 : n.natAbs < 2 ^ k) (h2 : d < 2 ^ k) : Fit k (mkRat n d) :=
  ⟨Nat.lt_of_le_of_lt (mkRat_le n d hd).1 h1, Nat.lt_of_le_of_lt (mkRat_le n d hd).2 h2⟩
theorem rat_add (x y : Rat) : x + y = mkRat (x.num * y.den + y.num * x.den) (x.den * y.den) := by
  conv => lhs; rw [← Rat.mkRat_self x, ← Rat.mkRat_self y]
  exact Rat.mkRat_add_mkRat _ _ x.den_nz y.den_nz
theorem rat_mul (x y : Rat) : x * y = mkRat (x.num * y.num) (x.den * y.den) := by
  conv => lhs; rw [← Rat.mkRat_self x, ← Rat.mkRat_self y]
  exact Rat.mkRat_mul_mkRat ..
theorem Fit.mul {i j : Nat} {x y : Rat} (hx : Fit i x) (hy : Fit j y) : Fit (i + j) (x * y) := by
  rw [rat_mul]
  refine Fit.mkRat (Nat.mul_ne_zero x.den_nz y.den_nz) ?_ ?_
  · rw [Int.natAbs_mul, Nat.pow_add]; exact Nat.mul_lt_mul'' hx.1 hy.1
  · rw [Nat.pow_add]; exact Nat.mul_lt_mul'' hx.2 hy.2
theorem Fit.add {i j : Nat} {x y : Rat} (hx : Fit i x) (hy : Fit j y) : Fit (i + j + 1) (x + y) := by
  rw [rat_add]
  refine Fit.mkRat (Nat.mul_ne_zero x.den_nz y.den_nz) ?_ ?_
  · have h1 : (x.num * (y.den : Int)).natAbs < 2 ^ i * 2 ^ j := by rw [Int.natAbs_mul]; exact Nat.mul_lt_mul'' hx.1 (by simpa using hy.2)
    have h2 : (y.num * (x.den : Int)).natAbs < 2 ^ i * 2 ^ j := by rw [Int.natAbs_mul, Nat.mul_comm]; exact Nat.mul_lt_mul'' (by simpa using hx.2) hy.1
    have h3 := Int.natAbs_add_le (x.num * (y.den : Int)) (y.num * (x.den : Int))
    rw [Nat.pow_succ, Nat.pow_add]; omega
  · have h1 := Nat.mul_lt_mul'' hx.2 hy.2
    rw [Nat.pow_succ, Nat.pow_add]; omega
theorem Fit.neg {i : Nat} {x : Rat} (hx : Fit i x) : Fit i (-x) := by
  refine ⟨?_, hx.2⟩
  show (-x.num).natAbs < _
  rw [Int.natAbs_neg]; exact hx.1
theorem Fit.sub {i j : Nat} {x y : Rat} (hx : Fit i x) (hy : Fit j y) : Fit (i + j + 1) (x - y) := by
  rw [Rat.sub_eq_add_neg]; exact hx.add hy.neg
theorem Fit.int {k : Nat} {n : Int} (h : n.natAbs < 2 ^ k) (hk : 1 ≤ k) : Fit k (n : Rat) :=
  ⟨h, by show 1 < 2 ^ k; exact Nat.lt_of_lt_of_le (by decide : 1 < 2 ^ 1) (Nat.pow_le_pow_right (by omega) hk)⟩
theorem Fit.zero {k : Nat} (hk : 1 ≤ k) : Fit k 0 := Fit.int (n := 0) (Nat.two_pow_pos k) hk
theorem inv_parts (x : Rat) : (x⁻¹).num.natAbs = (if x.num = 0 then 0 else x.den) ∧ (x⁻¹).den = (if x.num = 0 then 1 else x.num.natAbs) := by
  by_cases h : x = 0
  · subst h; rw [Rat.inv_zero]; exact ⟨rfl, rfl⟩
  · have h0 : x.num ≠ 0 := fun e => h (Rat.num_eq_zero.1 e)
    rw [if_neg h0, if_neg h0, Rat.inv_def]
    have hr : Nat.Coprime x.den x.num.natAbs := x.reduced.symm
    rcases Int.lt_or_gt_of_ne h0 with hn | hp
    · have e : Rat.divInt (x.den : Int) x.num = mkRat (-(x.den : Int)) x.num.natAbs := by
        have h1 : x.num = -(x.num.natAbs : Int) := by omega
        conv => lhs; rw [h1]
        rw [Rat.divInt_neg', Rat.divInt_ofNat]
      have h2 := Rat.mkRat_self ⟨-(x.den : Int), x.num.natAbs, by omega, by simpa using hr⟩
      rw [e, show mkRat (-(x.den : Int)) x.num.natAbs = _ from h2]
      simp
    · have e : Rat.divInt (x.den : Int) x.num = mkRat (x.den : Int) x.num.natAbs := by
        have h1 : x.num = (x.num.natAbs : Int) := by omega
        conv => lhs; rw [h1]
        rw [Rat.divInt_ofNat]
      have h2 := Rat.mkRat_self ⟨(x.den : Int), x.num.natAbs, by omega, by simpa using hr⟩
      rw [e, show mkRat (x.den : Int) x.num.natAbs = _ from h2]
      simp
theorem Fit.inv {k : Nat} {x : Rat} (h : Fit k x) (hk : 1 ≤ k) : Fit k x⁻¹ := by
  obtain ⟨h1, h2⟩ := inv_parts x
  have hp : 1 < 2 ^ k := Nat.lt_of_lt_of_le (by decide : 1 < 2 ^ 1) (Nat.pow_le_pow_right (by omega) hk)
  unfold Fit
  rw [h1, h2]
  split
  · exact ⟨by omega, hp⟩
  · exact ⟨h.2, h.1⟩
theorem Fit.div {i j : Nat} {x y : Rat} (hx : Fit i x) (hy : Fit j y) (hj : 1 ≤ j) : Fit (i + j) (x / y) := by
  rw [Rat.div_def]; exact hx.mul (hy.inv hj)
end Fr
end Go.Proofs.YtkkgibnoggickaaGreatDoor
