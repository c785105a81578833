package eddy

import (
	"math"
	"math/rand"
	"testing"

	"fluxmast/api"
	"fluxmast/num"
)

// P5.1 and P5.2: moments.

func TestOf(t *testing.T) {
	for _, c := range []struct{ x, y, want string }{
		{"1 2 3", "2 4 9", "3: 6 15 14 101 37"},
		{"-1.5", "0.25", "1: -3/2 1/4 9/4 1/16 -3/8"},
		{"-0 0", "-0 -0", "2: 0 0 0 0 0"},
		{"1 -1", "3 3", "2: 0 6 2 18 0"},
		{"16777216 1", "1 -1", "2: 16777217 0 281474976710657 2 16777215"}, // the sum is no float32
	} {
		isText(t, "Of "+c.x+" and "+c.y, momentsText(sumsOf(t, series(c.x), series(c.y))), c.want)
	}
	got := sumsOf(t, []float32{math.MaxFloat32}, []float32{math.SmallestNonzeroFloat32})
	isRat(t, "X of the greatest sample", got.X, ratOfFloat(math.MaxFloat32))
	isRat(t, "YY of the least sample", got.YY, mul(ratOfFloat(math.SmallestNonzeroFloat32), ratOfFloat(math.SmallestNonzeroFloat32)))
	isRat(t, "XY of both", got.XY, mul(ratOfFloat(math.MaxFloat32), ratOfFloat(math.SmallestNonzeroFloat32)))
	isInt(t, "Count of 64 samples", sumsOf(t, make([]float32, 64), make([]float32, 64)).Count, 64)
}

func TestSeriesOfMoments(t *testing.T) {
	isErrorOfTwo(t, "Of", func(x, y []float32) (bool, api.Errno) {
		got, e := Of(x, y)
		return isNothing(got), e
	})
	isErrorOfTwo(t, "Running", func(x, y []float32) (bool, api.Errno) {
		got, e := Running(x, y)
		return len(got) == 0, e
	})
}

func isNothing(m Moments) bool {
	return momentsText(m) == momentsText(Moments{})
}

type momentsCase struct {
	what string
	m    Moments
	want api.Errno
}

func momentsCases() []momentsCase {
	return []momentsCase{
		{"no pairs", Moments{}, api.OK},
		{"pairs", m(3, "6 15 14 101 37"), api.OK},
		{"the most pairs", m(1<<40, "0 0 0 0 0"), api.OK},
		{"too many pairs", m(1<<40+1, "0 0 0 0 0"), api.ErrArg},
		{"most pairs of all", m(math.MaxInt, "0 0 0 0 0"), api.ErrArg},
		{"fewer than no pairs", m(-1, "0 0 0 0 0"), api.ErrArg},
		{"fewest pairs of all", m(math.MinInt, "0 0 0 0 0"), api.ErrArg},
		{"fewer than no pairs, with squares", m(-2, "0 0 -1 -1 0"), api.ErrArg},
		{"the least squares of x", m(2, "3 0 9/2 0 0"), api.OK},
		{"too small squares of x", m(2, "3 0 4499/1000 0 0"), api.ErrArg},
		{"the least squares of y", m(2, "0 -3 0 9/2 0"), api.OK},
		{"too small squares of y", m(2, "0 -3 0 4499/1000 0"), api.ErrArg},
		{"squares below 0", m(1, "0 0 -1 -1 0"), api.ErrArg},
		{"squares of x below 0", m(1, "0 0 -1 0 0"), api.ErrArg},
		{"both squares too small", m(1, "1 1 0 0 1"), api.ErrArg},
		{"the greatest products", m(2, "0 0 2 8 4"), api.OK},
		{"too great products", m(2, "0 0 2 8 4001/1000"), api.ErrArg},
		{"the least products", m(2, "0 0 2 8 -4"), api.OK},
		{"too small products", m(2, "0 0 2 8 -4001/1000"), api.ErrArg},
		{"the greatest products with sums", m(2, "1 3 5/2 13/2 7/2"), api.OK},
		{"too great products with sums", m(2, "1 3 5/2 13/2 3501/1000"), api.ErrArg},
		{"the least products with sums", m(2, "1 3 5/2 13/2 -1/2"), api.OK},
		{"too small products with sums", m(2, "1 3 5/2 13/2 -501/1000"), api.ErrArg},
		{"one pair that is several", m(1, "1 1 2 2 2"), api.OK}, // all that is asked for holds
		{"X without pairs", m(0, "1 0 0 0 0"), api.ErrArg},
		{"Y without pairs", m(0, "0 1 0 0 0"), api.ErrArg},
		{"XX without pairs", m(0, "0 0 1 0 0"), api.ErrArg},
		{"YY without pairs", m(0, "0 0 0 1 0"), api.ErrArg},
		{"XY without pairs", m(0, "0 0 0 0 1"), api.ErrArg},
		{"squares below 0 without pairs", m(0, "0 0 -1 -1 0"), api.ErrArg},
	}
}

func TestCheck(t *testing.T) {
	good := m(1, "1 1 1 1 1")
	for _, c := range momentsCases() {
		isCode(t, "Check of "+c.what, Check(c.m), c.want)
		if c.want == api.OK {
			continue
		}
		x, y, e := Means(c.m)
		isCode(t, "Means of "+c.what, e, c.want)
		isText(t, "Means of "+c.what, fracsText(x, y), "0 0")
		x, e = Covariance(c.m)
		isCode(t, "Covariance of "+c.what, e, c.want)
		isText(t, "Covariance of "+c.what, x.Text(), "0")
		x, y, e = Variances(c.m)
		isCode(t, "Variances of "+c.what, e, c.want)
		isText(t, "Variances of "+c.what, fracsText(x, y), "0 0")
		for _, pair := range [][2]Moments{{c.m, good}, {good, c.m}, {c.m, c.m}} {
			both, e := Plus(pair[0], pair[1])
			isCode(t, "Plus with "+c.what, e, c.want)
			isTrue(t, "Plus has zero values with "+c.what, isNothing(both))
			both, e = Less(pair[0], pair[1])
			isCode(t, "Less with "+c.what, e, c.want)
			isTrue(t, "Less has zero values with "+c.what, isNothing(both))
		}
	}
}

func TestPlus(t *testing.T) {
	for _, c := range []struct {
		what string
		a, b Moments
		want string
		code api.Errno
	}{
		{"two parts", m(2, "3 6 5 20 10"), m(1, "3 9 9 81 27"), "3: 6 15 14 101 37", api.OK},
		{"nothing", m(2, "3 6 5 20 10"), Moments{}, "2: 3 6 5 20 10", api.OK},
		{"nothing and nothing", Moments{}, Moments{}, "0: 0 0 0 0 0", api.OK},
		{"the most pairs", m(1<<40-1, "0 0 1 0 0"), m(1, "1 0 1 0 0"), "1099511627776: 1 0 2 0 0", api.OK},
		{"the most pairs and nothing", m(1<<40, "0 0 1 0 0"), Moments{}, "1099511627776: 0 0 1 0 0", api.OK},
		{"too many pairs", m(1<<40, "0 0 1 0 0"), m(1, "1 0 1 0 0"), "0: 0 0 0 0 0", api.ErrFull},
		{"twice the most pairs", m(1<<40, "0 0 1 0 0"), m(1<<40, "0 0 1 0 0"), "0: 0 0 0 0 0", api.ErrFull},
		{"too many pairs and an error", m(1<<40, "0 0 1 0 0"), m(1, "1 0 0 0 0"), "0: 0 0 0 0 0", api.ErrArg},
	} {
		got, e := Plus(c.a, c.b)
		isCode(t, "Plus of "+c.what, e, c.code)
		isText(t, "Plus of "+c.what, momentsText(got), c.want)
	}
}

func TestLess(t *testing.T) {
	for _, c := range []struct {
		what string
		a, b Moments
		want string
		code api.Errno
	}{
		{"a part", m(3, "6 15 14 101 37"), m(1, "3 9 9 81 27"), "2: 3 6 5 20 10", api.OK},
		{"nothing", m(2, "3 6 5 20 10"), Moments{}, "2: 3 6 5 20 10", api.OK},
		{"all", m(3, "6 15 14 101 37"), m(3, "6 15 14 101 37"), "0: 0 0 0 0 0", api.OK},
		{"more than all", m(1, "0 0 0 0 0"), m(2, "0 0 0 0 0"), "0: 0 0 0 0 0", api.ErrOrder},
		{"more than nothing", Moments{}, m(1, "0 0 0 0 0"), "0: 0 0 0 0 0", api.ErrOrder},
		{"more than all, and an error", m(1, "0 0 0 0 0"), m(2, "2 0 1 0 0"), "0: 0 0 0 0 0", api.ErrArg},
		{"as many other pairs", m(1, "2 0 4 0 0"), m(1, "1 0 1 0 0"), "0: 0 0 0 0 0", api.ErrArg},
		{"another x", m(2, "5 0 13 0 0"), m(1, "0 0 9 0 0"), "0: 0 0 0 0 0", api.ErrArg},
		{"another y", m(2, "0 5 0 13 0"), m(1, "0 0 0 9 0"), "0: 0 0 0 0 0", api.ErrArg},
		{"other products", m(4, "0 0 2 2 2"), m(2, "0 0 2 2 1"), "0: 0 0 0 0 0", api.ErrArg},
	} {
		got, e := Less(c.a, c.b)
		isCode(t, "Less "+c.what, e, c.code)
		isText(t, "Less "+c.what, momentsText(got), c.want)
	}
}

func TestMeans(t *testing.T) {
	for _, c := range []struct {
		m                            Moments
		means, covariance, variances string
		want                         api.Errno
	}{
		{m(3, "6 15 14 101 37"), "2 5", "7/3", "2/3 26/3", api.OK},
		{m(1, "-1/2 3 1/4 9 -3/2"), "-1/2 3", "0", "0 0", api.OK},
		{m(2, "1 3 5/2 17/2 -1/2"), "1/2 3/2", "-1", "1 2", api.OK},
		{m(1<<40, "1 0 2 1 -1"), "1/1099511627776 0", "-1/1099511627776", "2199023255551/1208925819614629174706176 1/1099511627776", api.OK},
		{Moments{}, "0 0", "0", "0 0", api.ErrFew},
	} {
		x, y, e := Means(c.m)
		isCode(t, "Means", e, c.want)
		isText(t, "Means", fracsText(x, y), c.means)
		x, e = Covariance(c.m)
		isCode(t, "Covariance", e, c.want)
		isText(t, "Covariance", x.Text(), c.covariance)
		x, y, e = Variances(c.m)
		isCode(t, "Variances", e, c.want)
		isText(t, "Variances", fracsText(x, y), c.variances)
	}
}

func TestMomentsModel(t *testing.T) {
	r := seeded()
	for range 200 {
		x, y := randomPair(r, 1, 64)
		all := sumsOf(t, x, y)
		isCode(t, "Check of Of", Check(all), api.OK)
		count := ratOf(len(x))
		isRat(t, "X", all.X, mul(count, ratMean(rats(x))))
		isRat(t, "Y", all.Y, mul(count, ratMean(rats(y))))
		isRat(t, "XX", all.XX, mul(count, ratMean(products(rats(x), rats(x)))))
		isRat(t, "YY", all.YY, mul(count, ratMean(products(rats(y), rats(y)))))
		isRat(t, "XY", all.XY, mul(count, ratMean(products(rats(x), rats(y)))))

		meanX, meanY, _ := Means(all)
		isRat(t, "the mean of x", meanX, ratMean(rats(x)))
		isRat(t, "the mean of y", meanY, ratMean(rats(y)))
		varianceX, varianceY, _ := Variances(all)
		isRat(t, "the variance of x", varianceX, slowCovariance(x, x))
		isRat(t, "the variance of y", varianceY, slowCovariance(y, y))
		covariance, _ := Covariance(all)
		isRat(t, "the covariance", covariance, slowCovariance(x, y))
		isTrue(t, "Cauchy and Schwarz", covariance.Mul(covariance).Cmp(varianceX.Mul(varianceY)) <= 0)
	}
}

// randomMoments is the moments of pairs of any fractions, a few of which may stand for many.
func randomMoments(r *rand.Rand) Moments {
	var all Moments
	for range r.Intn(4) {
		count, x, y := 1+r.Intn(5), randomFrac(r), randomFrac(r)
		times := num.Int(int64(count))
		one := Moments{count, times.Mul(x), times.Mul(y), times.Mul(x.Mul(x)), times.Mul(y.Mul(y)), times.Mul(x.Mul(y))}
		all, _ = Plus(all, one)
	}
	return all
}

func TestPlusOfAny(t *testing.T) {
	r := seeded()
	for range 300 {
		a, b, c := randomMoments(r), randomMoments(r), randomMoments(r)
		ab, e := Plus(a, b)
		isCode(t, "Plus", e, api.OK)
		ba, _ := Plus(b, a)
		isText(t, "Plus with both exchanged", momentsText(ba), momentsText(ab))
		left, _ := Plus(ab, c)
		bc, _ := Plus(b, c)
		right, _ := Plus(a, bc)
		isText(t, "Plus of Plus", momentsText(left), momentsText(right))
		back, e := Less(ab, b)
		isCode(t, "Less", e, api.OK)
		isText(t, "Less of Plus", momentsText(back), momentsText(a))
	}
}

func TestDividedAnywhere(t *testing.T) {
	r := seeded()
	for range 40 {
		x, y := randomPair(r, 1, 64)
		all := sumsOf(t, x, y)
		running, e := Running(x, y)
		isCode(t, "Running", e, api.OK)
		isInt(t, "the length of Running", len(running), len(x))
		for i, begin := range running {
			isText(t, "Running", momentsText(begin), momentsText(sumsOf(t, x[:i+1], y[:i+1])))
			if i+1 == len(x) {
				continue
			}
			end := sumsOf(t, x[i+1:], y[i+1:])
			both, e := Plus(begin, end)
			isCode(t, "Plus of both parts", e, api.OK)
			isText(t, "Plus of both parts", momentsText(both), momentsText(all))
			rest, e := Less(all, begin)
			isCode(t, "Less of the first part", e, api.OK)
			isText(t, "Less of the first part", momentsText(rest), momentsText(end))
		}
	}
}

// exchanged is the moments with both series exchanged.
func exchanged(m Moments) Moments {
	return Moments{m.Count, m.Y, m.X, m.YY, m.XX, m.XY}
}

// shifted is the moments with numbers added to all samples of each series.
func shifted(m Moments, dx, dy num.Frac) Moments {
	n, two := num.Int(int64(m.Count)), num.Int(2)
	return Moments{
		Count: m.Count,
		X:     m.X.Add(n.Mul(dx)),
		Y:     m.Y.Add(n.Mul(dy)),
		XX:    m.XX.Add(two.Mul(dx).Mul(m.X)).Add(n.Mul(dx.Mul(dx))),
		YY:    m.YY.Add(two.Mul(dy).Mul(m.Y)).Add(n.Mul(dy.Mul(dy))),
		XY:    m.XY.Add(dx.Mul(m.Y)).Add(dy.Mul(m.X)).Add(n.Mul(dx.Mul(dy))),
	}
}

func TestCovarianceStays(t *testing.T) {
	r := seeded()
	for range 200 {
		x, y := randomPair(r, 1, 64)
		all := sumsOf(t, x, y)
		covariance, _ := Covariance(all)
		isText(t, "Of of both exchanged", momentsText(sumsOf(t, y, x)), momentsText(exchanged(all)))
		turned, e := Covariance(exchanged(all))
		isCode(t, "Covariance of both exchanged", e, api.OK)
		isText(t, "Covariance of both exchanged", turned.Text(), covariance.Text())
		moved, e := Covariance(shifted(all, randomFrac(r), randomFrac(r)))
		isCode(t, "Covariance with numbers added", e, api.OK)
		isText(t, "Covariance with numbers added", moved.Text(), covariance.Text())
	}
	for range 100 {
		x := []float32{smallSample(r), smallSample(r), smallSample(r)}
		y := []float32{smallSample(r), smallSample(r), smallSample(r)}
		before, _ := Covariance(sumsOf(t, x, y))
		for i := range x {
			x[i] += 1000 // it stays exact
			y[i] -= 77.75
		}
		after, _ := Covariance(sumsOf(t, x, y))
		isText(t, "Covariance of other samples", after.Text(), before.Text())
	}
}

// P1 and R4.
func TestAnyMoments(t *testing.T) {
	r := seeded()
	for range 2000 {
		var l [2]Moments
		for i := range l {
			l[i] = Moments{extreme(r), randomFrac(r), randomFrac(r), randomFrac(r), randomFrac(r), randomFrac(r)}
			if r.Intn(2) == 0 {
				l[i] = randomMoments(r)
			}
		}
		for _, f := range []func(a, b Moments) (Moments, api.Errno){Plus, Less} {
			if got, e := f(l[0], l[1]); e != api.OK && !isNothing(got) || e == api.OK && Check(got) != api.OK {
				t.Fatalf("the error %d with %s", e, momentsText(got))
			}
		}
		if _, e := Covariance(l[0]); e == api.OK && Check(l[0]) != api.OK {
			t.Fatal("a covariance of moments with an error")
		}
	}
}

func TestSeriesStay(t *testing.T) {
	r := seeded()
	for range 300 {
		x, xUnchanged := behind(t, anySeries(r), 7, sameBits)
		y, yUnchanged := behind(t, anySeries(r), 7, sameBits)
		if got, e := Of(x, y); e != api.OK && !isNothing(got) {
			t.Fatal("moments with an error")
		}
		first, e := Running(x, y)
		if e != api.OK && len(first) > 0 {
			t.Fatal("moments with an error")
		}
		for i := range first {
			first[i] = Moments{}
		}
		if again, _ := Running(x, y); len(again) > 0 && again[0].Count != 1 {
			t.Fatal("results of two calls share memory")
		}
		Detrended(x, y)
		Lagged(x, y, extreme(r))
		Bound(x, y, extreme(r))
		Lag(x, y, r.Intn(4))
		Steady(x, y, 2+r.Intn(7))
		Trend(x)
		Skew(x)
		Rest(x)
		xUnchanged()
		yUnchanged()
	}
}
