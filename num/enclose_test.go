package num

import (
	"math"
	"math/big"
	"testing"

	"fluxmast/api"
)

// P1.1: Root, Exp and Log.

func TestRoot(t *testing.T) {
	for _, c := range []struct {
		x    string
		k    int
		want string
	}{
		{"2", 2, "[5/4,3/2]"}, {"0", 9, "[0,0]"}, {"9/16", 2, "[3/4,3/4]"}, {"9/16", 1, "[1/2,1]"}, {"9/16", 300, "[3/4,3/4]"}, {"1/9", 1, "[0,1/2]"},
		{"4", -3, "[2,2]"}, {"3", -3, "[1,2]"}, {"1/4", 0, "[0,1]"}, {"36893488147419103232", 0, "[6074000999,6074001000]"},
		{"340282366920938463463374607431768211456", 5, "[18446744073709551616,18446744073709551616]"},
		{"340282366920938463463374607431768211455", 0, "[18446744073709551615,18446744073709551616]"},
		{"340282366920938463463374607431768211457", 0, "[18446744073709551616,18446744073709551617]"},
	} {
		x, e := Root(frac(t, c.x), c.k)
		isBand(t, "Root of "+c.x, x, e, c.want)
	}
	for _, s := range []string{"-1", "-1/1000000000000000000000000"} {
		x, e := Root(frac(t, s), 3)
		noBand(t, "Root of "+s, x, e, api.ErrArg)
	}
}

// isAround tests that x is the band with k bits around a number, of which side tells whether it is above, at or below
// another one.
func isAround(t *testing.T, what string, x Band, k int, side func(Frac) int) {
	t.Helper()
	k = min(max(k, 0), 256)
	step := binary(false, limbs{1}, k)
	for _, end := range []Frac{x.lo, x.hi} {
		if !end.Down(k).Same(end) {
			t.Fatalf("%s: an end of %s has more bits than %d", what, x.Text(), k)
		}
	}
	if x.lo.Same(x.hi) && side(x.lo) == 0 {
		return
	}
	if side(x.lo) <= 0 || side(x.hi) >= 0 || !x.Width().Same(step) {
		t.Fatalf("%s: %s is not the band with %d bits", what, x.Text(), k)
	}
}

func TestRootIsExact(t *testing.T) {
	r := seeded()
	for range 1500 {
		x := randomFrac(r).Abs()
		if r.Intn(3) == 0 {
			x = x.Mul(x)
		}
		k := r.Intn(280) - 10
		root, e := Root(x, k)
		isCode(t, "Root", e, api.OK)
		isAround(t, "Root of "+x.Text(), root, k, func(y Frac) int { return x.Cmp(y.Mul(y)) })
	}
}

func TestExpExamples(t *testing.T) {
	for _, c := range []struct {
		x    string
		k    int
		want string
	}{
		{"1", 3, "[21/8,11/4]"}, {"0", 3, "[1,1]"}, {"0", 256, "[1,1]"}, {"-1", 4, "[5/16,3/8]"}, {"10", 0, "[22026,22027]"}, {"10", -7, "[22026,22027]"},
		{"64", 0, "[6235149080811616882909238708,6235149080811616882909238709]"}, {"-64", 0, "[0,1]"}, {"1/2", 0, "[1,2]"}, {"-1/2", 0, "[0,1]"},
	} {
		x, e := Exp(frac(t, c.x), c.k)
		isBand(t, "Exp of "+c.x, x, e, c.want)
	}
	for _, s := range []string{"129/2", "-129/2", "65", "1000000000000000000000000000000", "6400000000000000000000000001/100000000000000000000000000"} {
		x, e := Exp(frac(t, s), 3)
		noBand(t, "Exp of "+s, x, e, api.ErrArg)
	}
	x, e := Exp(Int(1), math.MaxInt)
	y, _ := Exp(Int(1), 256)
	isBand(t, "Exp with too many bits", x, e, y.Text())
	e69 := power10(69)
	if low := x.Mul(Only(e69)).Lo().Floor(); low.Text() != "2718281828459045235360287471352662497757247093699959574966967627724076" {
		t.Errorf("Exp of 1: %s", low.Text())
	}
}

// power10 is 10^n.
func power10(n int) Frac {
	x := Int(1)
	for range n {
		x = x.Mul(Int(10))
	}
	return x
}

func TestLogExamples(t *testing.T) {
	for _, c := range []struct {
		x    string
		k    int
		want string
	}{
		{"2", 3, "[5/8,3/4]"}, {"1/2", 0, "[-1,0]"}, {"1", 7, "[0,0]"}, {"1", 256, "[0,0]"}, {"10", 2, "[9/4,5/2]"}, {"3/2", 0, "[0,1]"}, {"3", 0, "[1,2]"},
		{"18446744073709551616", 0, "[44,45]"}, {"1/18446744073709551616", 0, "[-45,-44]"}, {"18446744073709551616", 4, "[709/16,355/8]"},
	} {
		x, e := Log(frac(t, c.x), c.k)
		isBand(t, "Log of "+c.x, x, e, c.want)
	}
	for _, s := range []string{"0", "-1", "18446744073709551617", "1/18446744073709551617", "36893488147419103233/2", "-18446744073709551616"} {
		x, e := Log(frac(t, s), 3)
		noBand(t, "Log of "+s, x, e, api.ErrArg)
	}
	x, e := Log(Int(2), math.MaxInt)
	y, _ := Log(Int(2), 256)
	isBand(t, "Log with too many bits", x, e, y.Text())
}

func TestFunctionsOfBands(t *testing.T) {
	x, e := band(t, "0", "4").Root(0)
	isBand(t, "Root", x, e, "[0,2]")
	x, e = band(t, "2", "2").Root(2)
	isBand(t, "Root", x, e, "[5/4,3/2]")
	x, e = band(t, "0", "1").Exp(0)
	isBand(t, "Exp", x, e, "[1,3]")
	x, e = band(t, "1", "10").Log(0)
	isBand(t, "Log", x, e, "[0,3]")
	x, e = band(t, "-1", "4").Root(0)
	noBand(t, "Root of [-1,4]", x, e, api.ErrArg)
	x, e = band(t, "-65", "1").Exp(0)
	noBand(t, "Exp of [-65,1]", x, e, api.ErrArg)
	x, e = band(t, "1", "65").Exp(0)
	noBand(t, "Exp of [1,65]", x, e, api.ErrArg)
	x, e = band(t, "0", "1").Log(0)
	noBand(t, "Log of [0,1]", x, e, api.ErrArg)
	x, e = band(t, "1", "18446744073709551617").Log(0)
	noBand(t, "Log of [1,2^64+1]", x, e, api.ErrArg)
}

// digits is how many binary digits the tests calculate e^x with.
const digits = 6000

// bigExp is e^x by math/big, right to more than 5000 bits.
func bigExp(x *big.Rat) *big.Float {
	float := func() *big.Float { return new(big.Float).SetPrec(digits) }
	const squares = 60
	part := float().SetMantExp(float().SetRat(x), -squares)
	sum, term := float().SetInt64(1), float().SetInt64(1)
	for n := int64(1); term.Sign() != 0 && term.MantExp(nil) > -digits; n++ {
		term = float().Quo(float().Mul(term, part), float().SetInt64(n))
		sum.Add(sum, term)
	}
	for range squares {
		sum = float().Mul(sum, sum)
	}
	return sum
}

// expSide returns whether e^x is above y (1) or below it; they must differ by more than what bigExp may be wrong by.
func expSide(t *testing.T, x, y Frac) int {
	t.Helper()
	rest := new(big.Float).SetPrec(digits).SetRat(bigRat(y))
	rest.Sub(bigExp(bigRat(x)), rest)
	if rest.Sign() == 0 || rest.MantExp(nil) < -5000 {
		t.Fatalf("e to %s is too near to %s for this test", x.Text(), y.Text())
	}
	return rest.Sign()
}

func isExp(t *testing.T, x Frac, k int) {
	t.Helper()
	got, e := Exp(x, k)
	isCode(t, "Exp", e, api.OK)
	isAround(t, "Exp of "+x.Text(), got, k, func(y Frac) int { return expSide(t, x, y) })
}

func isLog(t *testing.T, x Frac, k int) {
	t.Helper()
	got, e := Log(x, k)
	isCode(t, "Log", e, api.OK)
	isAround(t, "Log of "+x.Text(), got, k, func(y Frac) int { return -expSide(t, y, x) })
}

func TestExpIsExact(t *testing.T) {
	r := seeded()
	for range 40 {
		x := randomFrac(r)
		if x.Zero() || x.Abs().Cmp(Int(64)) > 0 {
			x = ratio(r.Intn(2) == 0, word(uint64(1+r.Intn(640))), word(uint64(10+r.Intn(7))))
		}
		isExp(t, x, r.Intn(270)-5)
	}
	for _, n := range []int64{1, -1, 64, -64} {
		isExp(t, Int(n), 256)
	}
}

func TestLogIsExact(t *testing.T) {
	r := seeded()
	for range 40 {
		x := twos(1, r.Intn(127)-63).Mul(ratio(false, randomLimbs(r, 3).add(limbs{1}), limbs{7}).Add(Int(1)))
		if x.Cmp(twos(1, 64)) > 0 {
			x = ratio(false, word(uint64(1+r.Intn(1000))), word(uint64(1001+r.Intn(7))))
		}
		isLog(t, x, r.Intn(270)-5)
	}
	for _, x := range []Frac{twos(1, 64), twos(1, -64), Int(2), twos(1, -1), twos(1<<62-1, 1), twos(1<<62-1, -62), twos(1<<62+1, -62)} {
		isLog(t, x, 256)
	}
}

// Numbers of which only thousands of bits tell on which side of a multiple of 2^-k they are.
func TestNearMultiples(t *testing.T) {
	near, _ := bigExp(big.NewRat(5, 4)).Rat(nil)
	for _, bits := range []int{70, 300, 1000, 4000} {
		step := twos(1, -bits)
		x := binary(false, toFrac(near).top.left(bits).over(toFrac(near).under()), bits)
		for _, k := range []int{2, 3, 200, 256} {
			isLog(t, x, k)
			isLog(t, x.Add(step), k)
		}
		if low, _ := Log(x, 2); low.Text() != "[1,5/4]" {
			t.Errorf("Log a little below 5/4: %s", low.Text())
		}
		if high, _ := Log(x.Add(step), 2); high.Text() != "[5/4,3/2]" {
			t.Errorf("Log a little above 5/4: %s", high.Text())
		}
	}
	// the x for which e^x is 3, by Newton's steps
	x := new(big.Float).SetPrec(digits).SetRat(big.NewRat(11, 10))
	for range 13 {
		r, _ := x.Rat(nil)
		e := bigExp(r)
		rest := new(big.Float).SetPrec(digits).Quo(new(big.Float).SetInt64(3), e)
		x.Add(x, rest.Sub(rest, new(big.Float).SetInt64(1)))
	}
	r, _ := x.Rat(nil)
	log3 := toFrac(r)
	for _, bits := range []int{70, 300, 4000} {
		low := binary(false, log3.top.left(bits).over(log3.under()), bits)
		isExp(t, low, 0)
		isExp(t, low.Add(twos(1, -bits)), 256)
		if x, _ := Exp(low, 0); x.Text() != "[2,3]" {
			t.Errorf("Exp a little below 3: %s", x.Text())
		}
		if x, _ := Exp(low.Add(twos(1, -bits)), 0); x.Text() != "[3,4]" {
			t.Errorf("Exp a little above 3: %s", x.Text())
		}
	}
}

// Arguments that are nearer to 0, or to 1, than any number of bits that could be tried.
func TestTinyArguments(t *testing.T) {
	for _, k := range []int{0, 5, 256} {
		step := twos(1, -k)
		for _, e := range []int{k + 1, k + 2, k + 70, 1 << 20} {
			x := twos(1, -e)
			for _, c := range []struct {
				what string
				call func(Frac, int) (Band, api.Errno)
				x    Frac
				want Band
			}{
				{"Exp above 1", Exp, x, Band{Int(1), Int(1).Add(step)}}, {"Exp below 1", Exp, x.Neg(), Band{Int(1).Sub(step), Int(1)}},
				{"Log above 1", Log, Int(1).Add(x), Band{Frac{}, step}}, {"Log below 1", Log, Int(1).Sub(x), Band{step.Neg(), Frac{}}},
			} {
				got, code := c.call(c.x, k)
				isBand(t, c.what, got, code, c.want.Text())
			}
		}
	}
}

// P1.6

func TestRootSquared(t *testing.T) {
	r := seeded()
	for range 500 {
		x := randomFrac(r).Abs()
		root, e := Root(x, r.Intn(256))
		if e != api.OK || !root.Square().Has(x) {
			t.Fatalf("Root of %s: %s %d", x.Text(), root.Text(), e)
		}
	}
}

// meet tests that two bands meet.
func meet(t *testing.T, what string, x, y Band) {
	t.Helper()
	if _, e := x.Meet(y); e != api.OK {
		t.Fatalf("%s: %s and %s do not meet", what, x.Text(), y.Text())
	}
}

func TestSumsAndProducts(t *testing.T) {
	r := seeded()
	for range 300 {
		x, y := ratio(r.Intn(2) == 0, word(uint64(r.Intn(320))), word(uint64(10+r.Intn(9)))), ratio(r.Intn(2) == 0, randomLimbs(r, 2), power(123))
		k := r.Intn(257)
		a, _ := Exp(x, k)
		b, _ := Exp(y, k)
		c, e := Exp(x.Add(y), k)
		isCode(t, "Exp", e, api.OK)
		meet(t, "Exp of a sum", c, a.Mul(b))
		if Int(1).Add(x).Cmp(a.hi) > 0 || Int(1).Add(y).Cmp(b.hi) > 0 {
			t.Fatalf("Exp of %s or %s is below 1 + x", x.Text(), y.Text())
		}
		x, y = x.Abs().Add(twos(1, -20)), y.Abs().Add(twos(1, -20))
		a, _ = Log(x, k)
		b, _ = Log(y, k)
		c, e = Log(x.Mul(y), k)
		isCode(t, "Log", e, api.OK)
		meet(t, "Log of a product", c, a.Add(b))
	}
}

func TestExpAndLogUndo(t *testing.T) {
	r := seeded()
	for range 300 {
		x := ratio(r.Intn(2) == 0, word(uint64(r.Intn(400))), word(uint64(10+r.Intn(9))))
		k, k2 := r.Intn(257), r.Intn(257)
		power, _ := Exp(x, k)
		if log, e := power.Log(k2); e == api.OK && !log.Has(x) {
			t.Fatalf("Log of Exp of %s: %s", x.Text(), log.Text())
		}
		if x.Sign() > 0 {
			log, _ := Log(x, k)
			if power, e := log.Exp(k2); e != api.OK || !power.Has(x) {
				t.Fatalf("Exp of Log of %s: %s %d", x.Text(), power.Text(), e)
			}
		}
	}
}
