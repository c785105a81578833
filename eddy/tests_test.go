package eddy

import (
	"math"
	"math/big"
	"strings"
	"testing"

	"fluxmast/api"
	"fluxmast/num"
)

// P5.1 and P5.5: tests.

func TestSteady(t *testing.T) {
	for _, c := range []struct {
		what, x, y string
		parts      int
		want       string
		code       api.Errno
	}{
		{"parts that repeat themselves", "1 2 1 2", "1 2 1 2", 2, "0", api.OK},
		{"unlike parts", "0 2 0 4", "0 2 0 4", 2, "1/11", api.OK}, // 1 and 4, and of all 11/4
		{"a covariance below 0", "0 2 0 4", "0 -2 0 -4", 2, "1/11", api.OK},
		{"parts of another sign", "0 1 10 9", "1 0 9 10", 2, "81/80", api.OK}, // -1/4 twice, and of all 20
		{"parts that rest", "0 0 1 1", "0 0 1 1", 2, "1", api.OK},
		{"what is left over", "1 2 1 2 9", "1 2 1 2 9", 2, "179/184", api.OK}, // 1/4 twice, and of all 46/5
		{"8 parts", "0 2 0 2 0 2 0 2 0 2 0 2 0 2 0 2", "0 1 0 1 0 1 0 1 0 1 0 1 0 1 0 1", 8, "0", api.OK},
		{"8 parts of 15", strings.Repeat("0 ", 14) + "1", strings.Repeat("0 ", 14) + "1", 8, "0", api.ErrFew},
		{"too few samples", "1 2 1", "1 2 1", 2, "0", api.ErrFew},
		{"one sample", "1", "1", 2, "0", api.ErrFew},
		{"too few samples that rest", "1 1 1", "1 1 1", 2, "0", api.ErrFew},
		{"one part", "1 2 1 2", "1 2 1 2", 1, "0", api.ErrArg},
		{"no part", "1 2 1 2", "1 2 1 2", 0, "0", api.ErrArg},
		{"too many parts", "1 2 1 2", "1 2 1 2", 9, "0", api.ErrArg},
		{"the most parts of all", "1", "1", math.MaxInt, "0", api.ErrArg},
		{"the fewest parts of all", "1", "1", math.MinInt, "0", api.ErrArg},
		{"what rests", "1 1 1 1", "1 2 1 2", 2, "0", api.ErrZero},
		{"no covariance", "0 1 0 1", "0 0 1 1", 2, "0", api.ErrZero},
	} {
		got, e := Steady(series(c.x), series(c.y), c.parts)
		isCode(t, "Steady of "+c.what, e, c.code)
		isText(t, "Steady of "+c.what, got.Text(), c.want)
	}
}

func TestSeriesOfTests(t *testing.T) {
	for _, parts := range []int{2, 0, 64} {
		isErrorOfTwo(t, "Steady", func(x, y []float32) (bool, api.Errno) {
			got, e := Steady(x, y, parts)
			return got.Zero(), e
		})
	}
	isErrorOfSeries(t, "Skew", func(x []float32) (bool, api.Errno) {
		got, sign, e := Skew(x)
		return got.Zero() && sign == 0, e
	})
	isErrorOfSeries(t, "Rest", func(x []float32) (bool, api.Errno) {
		got, e := Rest(x)
		return got == 0, e
	})
}

func TestSteadyModel(t *testing.T) {
	r := seeded()
	known := 0
	for range 300 {
		parts := 2 + r.Intn(7)
		x, y := randomPair(r, 2*parts, 64)
		all := slowCovariance(x, y)
		got, e := Steady(x, y, parts)
		if isRatZero(all) {
			isCode(t, "Steady", e, api.ErrZero)
			continue
		}
		known++
		isCode(t, "Steady", e, api.OK)
		var covariances []*big.Rat
		for size := len(x) / parts; len(covariances) < parts; {
			at := len(covariances) * size
			covariances = append(covariances, slowCovariance(x[at:at+size], y[at:at+size]))
		}
		isRat(t, "Steady", got, quo(ratAbs(sub(ratMean(covariances), all)), ratAbs(all)))
		isTrue(t, "Steady is not below 0", got.Sign() >= 0)
	}
	isTrue(t, "many series have a covariance", known > 200)
}

func TestSteadyOfRepeats(t *testing.T) {
	r := seeded()
	known := 0
	for range 200 {
		parts := 2 + r.Intn(7)
		x, y := randomPair(r, 2, 64/parts)
		var xs, ys []float32
		for range parts {
			xs, ys = append(xs, x...), append(ys, y...)
		}
		got, e := Steady(xs, ys, parts)
		if e == api.ErrZero {
			continue
		}
		known++
		isCode(t, "Steady of repeats", e, api.OK)
		isText(t, "Steady of repeats", got.Text(), "0")
	}
	isTrue(t, "many series have a covariance", known > 100)
}

func TestFriction(t *testing.T) {
	for _, c := range []struct {
		uw, vw string
		k      int
		want   string
	}{
		{"3", "4", 0, "[2,3]"},
		{"-3", "4", 0, "[2,3]"},
		{"3", "-4", -7, "[2,3]"},
		{"3", "4", 2, "[2,9/4]"},
		{"0", "0", 5, "[0,0]"},
		{"0", "-16", 0, "[4,4]"},
		{"-1/4", "0", 2, "[1/2,1/2]"},
		{"-1/4", "0", 1, "[0,1]"}, // the root of 1/16 is from 0 to 1/2
		{"1", "1", 0, "[1,2]"},
		{"0", "5", 1, "[2,5/2]"},
		{"2", "2", 0, "[1,2]"}, // the root of 8 is from 2 to 3
		{"4", "5", 0, "[2,3]"}, // the root of 41 is from 6 to 7
		{"12", "10", 0, "[3,4]"},
	} {
		got, e := Friction(frac(c.uw), frac(c.vw), c.k)
		isCode(t, "Friction of "+c.uw+" and "+c.vw, e, api.OK)
		isText(t, "Friction of "+c.uw+" and "+c.vw, got.Text(), c.want)
	}
	most, _ := Friction(frac("1/3"), frac("1/7"), api.MaxBits)
	more, e := Friction(frac("1/3"), frac("1/7"), math.MaxInt)
	isCode(t, "Friction with more than the most bits", e, api.OK)
	isText(t, "Friction with more than the most bits", more.Text(), most.Text())
}

func TestFrictionModel(t *testing.T) {
	r := seeded()
	for range 300 {
		uw, vw, k := randomFrac(r), randomFrac(r), r.Intn(80)-10
		got, e := Friction(uw, vw, k)
		isCode(t, "Friction", e, api.OK)
		stress := uw.Mul(uw).Add(vw.Mul(vw))
		root, _ := num.Root(stress, k)
		want, _ := root.Root(k)
		isText(t, "Friction", got.Text(), want.Text())
		fourth := func(x num.Frac) num.Frac { return x.Mul(x).Mul(x.Mul(x)) }
		isTrue(t, "the fourth powers of the ends are around the sum of squares", fourth(got.Lo()).Cmp(stress) <= 0 && fourth(got.Hi()).Cmp(stress) >= 0)
		isTrue(t, "Friction is not below 0", got.Lo().Sign() >= 0)
	}
}

func TestDeveloped(t *testing.T) {
	for _, c := range []struct {
		variance, friction, model string
		want                      string
		code                      api.Errno
	}{
		{"4", "1 1", "2", "0", api.OK},
		{"4", "1 2", "2", "3/4", api.OK},
		{"16", "1 2", "2", "3", api.OK},
		{"10", "1 2", "2", "3/2", api.OK}, // 6/4, and 6/16
		{"5", "1 2", "2", "11/16", api.OK},
		{"0", "1/3 1/2", "5/4", "1", api.OK},
		{"0", "1000 1001", "1/1000", "1", api.OK},
		{"4", "0 1", "2", "0", api.ErrZero},
		{"4", "-1 1", "2", "0", api.ErrZero},
		{"4", "-2 -1", "2", "0", api.ErrZero},
		{"4", "0 0", "2", "0", api.ErrZero},
		{"-1/9", "1 1", "2", "0", api.ErrArg},
		{"4", "1 1", "0", "0", api.ErrArg},
		{"4", "1 1", "-2", "0", api.ErrArg},
		{"-4", "0 1", "2", "0", api.ErrArg},
		{"4", "0 1", "0", "0", api.ErrArg},
		{"-4", "1 1", "-2", "0", api.ErrArg},
	} {
		what := "Developed of " + c.variance + " with " + c.friction + " and " + c.model
		got, e := Developed(frac(c.variance), band(c.friction), frac(c.model))
		isCode(t, what, e, c.code)
		isText(t, what, got.Text(), c.want)
	}
}

func TestDevelopedModel(t *testing.T) {
	r := seeded()
	for range 300 {
		variance, model := randomFrac(r).Abs(), randomAbove(r)
		friction := num.Only(randomAbove(r)).Hull(num.Only(randomAbove(r)))
		got, e := Developed(variance, friction, model)
		isCode(t, "Developed", e, api.OK)
		far := func(f num.Frac) *big.Rat {
			root := mul(rat(model), rat(f))
			return ratAbs(sub(quo(rat(variance), mul(root, root)), ratOf(1)))
		}
		want := far(friction.Lo())
		if high := far(friction.Hi()); high.Cmp(want) > 0 {
			want = high
		}
		isRat(t, "Developed", got, want)
		isTrue(t, "Developed is not below 0", got.Sign() >= 0)
	}
}

func TestSkew(t *testing.T) {
	for _, c := range []struct {
		x, want string
		sign    int
		code    api.Errno
	}{
		{"0 0 3", "1/2", 1, api.OK},
		{"0 0 -3", "1/2", -1, api.OK},
		{"5 5 8", "1/2", 1, api.OK},
		{"1 2 3", "0", 0, api.OK},
		{"1 2", "0", 0, api.OK},
		{"0 0 0 1", "4/3", 1, api.OK},
		{"2 2", "0", 0, api.ErrZero},
		{"2", "0", 0, api.ErrZero},
		{"0 -0", "0", 0, api.ErrZero},
	} {
		got, sign, e := Skew(series(c.x))
		isCode(t, "Skew of "+c.x, e, c.code)
		isText(t, "Skew of "+c.x, got.Text(), c.want)
		isInt(t, "the sign of Skew of "+c.x, sign, c.sign)
	}
}

func TestSkewModel(t *testing.T) {
	r := seeded()
	for range 200 {
		x := randomSeries(r, 1+r.Intn(64))
		far := around(rats(x))
		squares := products(far, far)
		variance, third := ratMean(squares), ratMean(products(squares, far))
		got, sign, e := Skew(x)
		if isRatZero(variance) {
			isCode(t, "Skew", e, api.ErrZero)
			continue
		}
		isCode(t, "Skew", e, api.OK)
		isRat(t, "Skew", got, quo(mul(third, third), mul(variance, mul(variance, variance))))
		isInt(t, "the sign of Skew", sign, third.Sign())
		isTrue(t, "Skew is not below 0", got.Sign() >= 0)
	}
}

func TestSkewOfScaled(t *testing.T) {
	r := seeded()
	for range 200 {
		x := make([]float32, 2+r.Intn(63))
		scaled, turned := make([]float32, len(x)), make([]float32, len(x))
		power := float32(math.Ldexp(1, r.Intn(60)-30))
		for i := range x {
			x[i] = smallSample(r)
			scaled[i], turned[i] = x[i]*power, -x[i]
		}
		got, sign, e := Skew(x)
		other, otherSign, otherCode := Skew(scaled)
		isCode(t, "Skew of scaled samples", otherCode, e)
		isText(t, "Skew of scaled samples", other.Text(), got.Text())
		isInt(t, "the sign of scaled samples", otherSign, sign)
		other, otherSign, otherCode = Skew(turned)
		isCode(t, "Skew of turned samples", otherCode, e)
		isText(t, "Skew of turned samples", other.Text(), got.Text())
		isInt(t, "the sign of turned samples", otherSign, -sign)
	}
}

func TestRest(t *testing.T) {
	for _, c := range []struct {
		x    string
		want int
	}{
		{"1 2 2 2 3 3", 3},
		{"1 1 2 2 2 3 3 3 3", 4},
		{"1 1 1 2 2", 3},
		{"1 2 1 2", 1},
		{"1", 1},
		{"0 -0 0 1", 3},
		{"-0 0", 2},
		{"1e-45 0 0", 2},
		{"1 1 2 1 1", 2},
	} {
		got, e := Rest(series(c.x))
		isCode(t, "Rest of "+c.x, e, api.OK)
		isInt(t, "Rest of "+c.x, got, c.want)
	}
	got, e := Rest(copies(7, 64))
	isCode(t, "Rest of 64 samples", e, api.OK)
	isInt(t, "Rest of 64 samples", got, 64)
}

func TestRestModel(t *testing.T) {
	r := seeded()
	for range 300 {
		x := randomSeries(r, 1+r.Intn(64))
		want := 0
		for from := range x {
			for to := from; to < len(x) && x[to] == x[from]; to++ {
				want = max(want, to+1-from)
			}
		}
		got, e := Rest(x)
		isCode(t, "Rest", e, api.OK)
		isInt(t, "Rest", got, want)
	}
}

// P1: no call panics, and an error comes alone.
func TestAnyTests(t *testing.T) {
	r := seeded()
	for range 1000 {
		if got, e := Developed(randomFrac(r), randomBand(r), randomFrac(r)); e != api.OK && !got.Zero() {
			t.Fatal("a number with an error")
		}
		if _, e := Friction(randomFrac(r), randomFrac(r), extreme(r)); e != api.OK {
			t.Fatal("an error of Friction")
		}
		x := anySeries(r)
		if got, sign, e := Skew(x); e != api.OK && (sign != 0 || !got.Zero()) {
			t.Fatal("a skewness with an error")
		}
		if got, e := Rest(x); e != api.OK && got != 0 {
			t.Fatal("a rest with an error")
		}
	}
}
