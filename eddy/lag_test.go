package eddy

import (
	"math"
	"math/big"
	"math/rand"
	"slices"
	"testing"

	"fluxmast/api"
	"fluxmast/num"
)

// P5.1 and P5.4: lags.

func TestLagged(t *testing.T) {
	for _, c := range []struct {
		x, y  string
		lag   int
		want  string
		bound string
		code  api.Errno
	}{
		{"0 1 0 0", "0 0 1 0", 1, "2/9", "4/81", api.OK},
		{"0 1 0 0", "0 0 1 0", 0, "-1/16", "9/256", api.OK},
		{"0 1 0 0", "0 0 1 0", -1, "-1/9", "4/81", api.OK},
		{"0 1 0 0", "0 0 1 0", 2, "-1/4", "1/16", api.OK},
		{"0 1 0 0", "0 0 1 0", -2, "0", "0", api.OK},
		{"0 1 0 0", "0 0 1 0", 3, "0", "0", api.OK},
		{"0 1 0 0", "0 0 1 0", -3, "0", "0", api.OK},
		{"0 1 0 0", "0 0 1 0", 4, "0", "0", api.ErrFew},
		{"0 1 0 0", "0 0 1 0", -4, "0", "0", api.ErrFew},
		{"0 1 0 0", "0 0 1 0", 16, "0", "0", api.ErrFew},
		{"0 1 0 0", "0 0 1 0", -16, "0", "0", api.ErrFew},
		{"0 1 0 0", "0 0 1 0", 17, "0", "0", api.ErrArg},
		{"0 1 0 0", "0 0 1 0", -17, "0", "0", api.ErrArg},
		{"0 1 0 0", "0 0 1 0", math.MaxInt, "0", "0", api.ErrArg},
		{"0 1 0 0", "0 0 1 0", math.MinInt, "0", "0", api.ErrArg},
		{"1 2 4", "9 7 5", 1, "-1/2", "1/4", api.OK},
		{"1 2 4", "9 7 5", -1, "-1", "1", api.OK},
		{"5", "7", 0, "0", "0", api.OK},
		{"5", "7", 1, "0", "0", api.ErrFew},
	} {
		x, y := series(c.x), series(c.y)
		got, e := Lagged(x, y, c.lag)
		isCode(t, "Lagged of "+c.x, e, c.code)
		isText(t, "Lagged of "+c.x, got.Text(), c.want)
		got, e = Bound(x, y, c.lag)
		isCode(t, "Bound of "+c.x, e, c.code)
		isText(t, "Bound of "+c.x, got.Text(), c.bound)
	}
	for _, lag := range []int{16, -16} {
		_, e := Lagged(make([]float32, 17), make([]float32, 17), lag)
		isCode(t, "the greatest lag", e, api.OK)
		_, e = Bound(make([]float32, 64), make([]float32, 64), lag)
		isCode(t, "Bound of the greatest lag", e, api.OK)
		_, e = Lagged(make([]float32, 64), make([]float32, 64), lag+lag/16)
		isCode(t, "a greater lag", e, api.ErrArg)
	}
}

func TestSeriesOfLags(t *testing.T) {
	for _, lag := range []int{0, 64, math.MinInt} {
		isErrorOfTwo(t, "Lagged", func(x, y []float32) (bool, api.Errno) {
			got, e := Lagged(x, y, lag)
			return got.Zero(), e
		})
		isErrorOfTwo(t, "Bound", func(x, y []float32) (bool, api.Errno) {
			got, e := Bound(x, y, lag)
			return got.Zero(), e
		})
		isErrorOfTwo(t, "Lag", func(x, y []float32) (bool, api.Errno) {
			at, got, e := Lag(x, y, lag)
			return at == 0 && got.Zero(), e
		})
		isErrorOfTwo(t, "Proof", func(x, y []float32) (bool, api.Errno) {
			got, e := Proof(x, y, lag)
			return len(got) == 0, e
		})
		isErrorOfTwo(t, "Proves", func(x, y []float32) (bool, api.Errno) {
			got, e := Proves(x, y, lag, lag, nil)
			return !got, e
		})
	}
}

func TestLag(t *testing.T) {
	for _, c := range []struct {
		what, x, y string
		most       int
		lag        int
		want       string
	}{
		{"an example", "0 1 0 0", "0 0 1 0", 1, 1, "2/9"},
		{"a farther one", "0 1 0 0", "0 0 1 0", 2, 2, "-1/4"},
		{"the middle alone", "0 1 0 0", "0 0 1 0", 0, 0, "-1/16"},
		{"both exchanged", "0 0 1 0", "0 1 0 0", 1, -1, "2/9"},
		{"what rests", "1 1 1", "1 1 1", 2, 0, "0"},
		{"one sample", "3", "7", 0, 0, "0"},
		{"two that are as far", "0 1 0", "0 1 0", 1, 1, "-1/4"},                      // 0: 2/9; 1 and -1: -1/4 both
		{"as strong at 0", "0 1 0 1", "0 1 0 1", 2, 0, "1/4"},                        // 2: 1/4, too
		{"a nearer one that is as strong", "2 0 1 0", "3 0 3 1", 2, 1, "-1"},         // 2: 1
		{"a nearer one below 0 that is as strong", "3 1 0 3", "2 1 3 1", 2, -1, "1"}, // 2: 1, or -1
	} {
		lag, got, e := Lag(series(c.x), series(c.y), c.most)
		isCode(t, "Lag with "+c.what, e, api.OK)
		isInt(t, "Lag with "+c.what, lag, c.lag)
		isText(t, "Lag with "+c.what, got.Text(), c.want)
	}
}

func TestLagErrors(t *testing.T) {
	for _, c := range []struct {
		what  string
		count int
		most  int
		want  api.Errno
	}{
		{"no lag but 0", 1, 0, api.OK},
		{"a lag without pairs", 1, 1, api.ErrFew},
		{"as many lags as there are pairs", 4, 3, api.OK},
		{"more lags than pairs", 4, 4, api.ErrFew},
		{"the most lags", 17, 16, api.OK},
		{"the most lags of fewer samples", 16, 16, api.ErrFew},
		{"the most lags of all samples", 64, 16, api.OK},
		{"too many lags", 64, 17, api.ErrArg},
		{"too many lags of few samples", 1, 17, api.ErrArg},
		{"fewer than no lags", 64, -1, api.ErrArg},
		{"the greatest most", 64, math.MaxInt, api.ErrArg},
		{"the least most", 64, math.MinInt, api.ErrArg},
	} {
		x := make([]float32, c.count)
		_, _, e := Lag(x, x, c.most)
		isCode(t, "Lag with "+c.what, e, c.want)
		bounds, e := Proof(x, x, c.most)
		isCode(t, "Proof with "+c.what, e, c.want)
		if e == api.OK {
			isInt(t, "the length of Proof with "+c.what, len(bounds), 2*c.most+1)
			continue
		}
		isInt(t, "the length of Proof with "+c.what, len(bounds), 0)
		for _, lag := range []int{0, math.MaxInt} {
			ok, e := Proves(x, x, c.most, lag, bounds)
			isCode(t, "Proves with "+c.what, e, c.want)
			isTrue(t, "nothing is proved with "+c.what, !ok)
		}
	}
}

func TestProof(t *testing.T) {
	for _, c := range []struct {
		x, y string
		most int
		want string
	}{
		{"0 1 0 0", "0 0 1 0", 1, "1/81 9/256 4/81"},
		{"0 1 0 0", "0 0 1 0", 0, "1/256"},
		{"0 1 0 0", "0 0 1 0", 2, "0 4/81 9/256 4/81 1/16"}, // for -2 the series 0 0 of x rests
		{"1 1 1", "1 2 1", 1, "0 0 0"},
		{"0 1 0", "0 1 0", 1, "1/16 4/81 1/16"},
	} {
		got, e := Proof(series(c.x), series(c.y), c.most)
		isCode(t, "Proof of "+c.x, e, api.OK)
		isText(t, "Proof of "+c.x, fracsText(got...), c.want)
	}
}

func TestProves(t *testing.T) {
	// For the lags -1, 0 and 1 the squares of Lagged are 1/81, 1/256 and 4/81, and Bound is 4/81, 9/256 and 4/81.
	x, y := series("0 1 0 0"), series("0 0 1 0")
	for _, c := range []struct {
		what, bounds string
		lag          int
		want         bool
		code         api.Errno
	}{
		{"its Proof", "1/81 9/256 4/81", 1, true, api.OK},
		{"the squares", "1/81 1/256 4/81", 1, true, api.OK},
		{"a bound above Bound", "1/81 1/25 4/81", 1, true, api.OK},
		{"a bound just below the square", "1/81 399999/8100000 4/81", 1, true, api.OK},
		{"a bound that is the square, of a lesser lag", "1/81 4/81 4/81", 1, false, api.OK},
		{"Bound that is the square", "4/81 9/256 4/81", 1, false, api.OK},
		{"a bound above the square", "1/81 1/20 4/81", 1, false, api.OK},
		{"a bound below Bound", "1/81 8/256 4/81", 1, false, api.OK},
		{"a bound below its own square", "1/82 9/256 4/81", 1, false, api.OK},
		{"the bound 0", "0 9/256 4/81", 1, false, api.OK},
		{"a bound below 0", "1/81 -9/256 4/81", 1, false, api.OK},
		{"a greater bound of the lag", "1/81 9/256 5/81", 1, false, api.OK},
		{"a lesser bound of the lag", "1/81 9/256 3/81", 1, false, api.OK},
		{"the bounds in the other order", "4/81 9/256 1/81", 1, false, api.OK},
		{"a weaker lag", "1/81 9/256 4/81", 0, false, api.OK},
		{"a weaker lag with its square", "1/256 1/256 1/256", 0, false, api.OK},
		{"the opposite lag", "1/81 9/256 4/81", -1, false, api.OK},
		{"a lag above most", "1/81 9/256 4/81", 2, false, api.ErrArg},
		{"a lag below -most", "1/81 9/256 4/81", -2, false, api.ErrArg},
		{"the greatest lag", "1/81 9/256 4/81", math.MaxInt, false, api.ErrArg},
		{"the least lag", "1/81 9/256 4/81", math.MinInt, false, api.ErrArg},
		{"too few bounds", "1/81 9/256", 1, false, api.ErrSize},
		{"too many bounds", "1/81 9/256 4/81 0", 1, false, api.ErrSize},
		{"no bounds", "", 1, false, api.ErrSize},
		{"no bounds and a lag above most", "", 2, false, api.ErrArg},
	} {
		l := ratios(c.bounds)
		ok, e := Proves(x, y, 1, c.lag, l)
		isCode(t, "Proves with "+c.what, e, c.code)
		isTrue(t, "Proves with "+c.what, ok == c.want)
	}
}

func TestEqualLags(t *testing.T) {
	// 1 and -1 have the covariance -1/4 both, 0 has 2/9, so that 1 is told.
	x := series("0 1 0")
	bounds := fracs("1/16 4/81 1/16")
	for lag, want := range map[int]bool{-1: false, 0: false, 1: true} {
		ok, e := Proves(x, x, 1, lag, bounds)
		isCode(t, "Proves of equal lags", e, api.OK)
		isTrue(t, "Proves just the lag above 0", ok == want)
	}
	// Nothing varies: 0 is told.
	rest := copies(3, 5)
	for lag := -2; lag <= 2; lag++ {
		ok, e := Proves(rest, rest, 2, lag, make([]num.Frac, 5))
		isCode(t, "Proves of what rests", e, api.OK)
		isTrue(t, "Proves just the lag 0", ok == (lag == 0))
	}
}

// The model takes the pairs of a lag one by one.

type slowLag struct{ lagged, square, bound *big.Rat }

func slowLags(x, y []float32, most int) map[int]slowLag {
	all := map[int]slowLag{}
	for lag := -most; lag <= most; lag++ {
		var a, b []float32
		for i := range x {
			for j := range y {
				if j == i+lag {
					a, b = append(a, x[i]), append(b, y[j])
				}
			}
		}
		c := slowCovariance(a, b)
		all[lag] = slowLag{c, mul(c, c), mul(slowCovariance(a, a), slowCovariance(b, b))}
	}
	return all
}

// better reports whether Lag would choose a rather than b, if both are as strong.
func better(a, b int) bool {
	if max(a, -a) != max(b, -b) {
		return max(a, -a) < max(b, -b)
	}
	return a > b
}

// slowBest is the lag that Lag chooses of all lags that count.
func slowBest(all map[int]slowLag, counts func(int) bool) (int, bool) {
	best, found := 0, false
	for lag, l := range all {
		if !counts(lag) {
			continue
		}
		if c := 0; found {
			if c = l.square.Cmp(all[best].square); c < 0 || c == 0 && !better(lag, best) {
				continue
			}
		}
		best, found = lag, true
	}
	return best, found
}

// slowProves follows the text of the document.
func slowProves(all map[int]slowLag, most, lag int, bounds []*big.Rat) bool {
	square := all[lag].square
	for i, bound := range bounds {
		l := all[i-most]
		just := sameRat(bound, l.square)
		within := bound.Cmp(l.bound) >= 0 && bound.Cmp(square) < 0
		if !just && !within || bound.Cmp(square) > 0 {
			return false
		}
	}
	best, found := slowBest(all, func(i int) bool { return sameRat(bounds[i+most], square) })
	return found && best == lag
}

func randomLags(r *rand.Rand) (x, y []float32, most int) {
	x, y = randomPair(r, 1, 12+r.Intn(53))
	return x, y, r.Intn(min(len(x), 17))
}

func TestLagsModel(t *testing.T) {
	r := seeded()
	for range 80 {
		x, y, most := randomLags(r)
		all := slowLags(x, y, most)
		best, _ := slowBest(all, func(int) bool { return true })
		lag, got, e := Lag(x, y, most)
		isCode(t, "Lag", e, api.OK)
		isInt(t, "Lag", lag, best)
		isRat(t, "Lag", got, all[best].lagged)
		proof, e := Proof(x, y, most)
		isCode(t, "Proof", e, api.OK)
		isInt(t, "the length of Proof", len(proof), 2*most+1)
		for i, bound := range proof {
			want := all[i-most].bound
			if want.Cmp(all[best].square) >= 0 {
				want = all[i-most].square
			}
			isRat(t, "Proof", bound, want)
		}
		for i, l := range all {
			lagged, e := Lagged(x, y, i)
			isCode(t, "Lagged", e, api.OK)
			isRat(t, "Lagged", lagged, l.lagged)
			opposite, _ := Lagged(y, x, -i)
			isText(t, "Lagged of both exchanged", opposite.Text(), lagged.Text())
			bound, e := Bound(x, y, i)
			isCode(t, "Bound", e, api.OK)
			isRat(t, "Bound", bound, l.bound)
			isTrue(t, "the square of Lagged is not above Bound", lagged.Mul(lagged).Cmp(bound) <= 0)
			isTrue(t, "no Lagged is above that of Lag", lagged.Abs().Cmp(got.Abs()) <= 0)
			ok, e := Proves(x, y, most, i, proof)
			isCode(t, "Proves", e, api.OK)
			isTrue(t, "Proof proves just the lag of Lag", ok == (i == best))
		}
	}
}

// randomBounds is bounds that are likely to prove a lag, or nearly.
func randomBounds(r *rand.Rand, all map[int]slowLag, most, lag int) []*big.Rat {
	near := big.NewRat(int64(r.Intn(3)-1), 1000000)
	var l []*big.Rat
	for i := -most; i <= most; i++ {
		choices := []*big.Rat{all[i].square, all[i].square, all[i].square, all[i].bound, all[lag].square, add(all[i].bound, near), sub(all[lag].square, near)}
		l = append(l, choices[r.Intn(len(choices))])
	}
	if r.Intn(4) > 0 {
		l[lag+most] = all[lag].square
	}
	return l
}

func TestProvesModel(t *testing.T) {
	r := seeded()
	proved := 0
	for range 400 {
		count := 1 + r.Intn(6)
		x, y := randomSeries(r, count), randomSeries(r, count)
		most := r.Intn(min(count, 3))
		all := slowLags(x, y, most)
		best, _, _ := Lag(x, y, most)
		for range 10 {
			lag := r.Intn(2*most+1) - most
			bounds := randomBounds(r, all, most, lag)
			var l []num.Frac
			for _, bound := range bounds {
				l = append(l, frac(bound.RatString()))
			}
			ok, e := Proves(x, y, most, lag, l)
			isCode(t, "Proves", e, api.OK)
			isTrue(t, "Proves is as the model", ok == slowProves(all, most, lag, bounds))
			isTrue(t, "Proves holds for the lag of Lag alone", !ok || lag == best)
			if ok && most > 0 {
				proved++
			}
		}
	}
	isTrue(t, "many bounds prove a lag", proved > 100)
}

func TestPreferred(t *testing.T) {
	isInts(t, "preferred of 0", slices.Collect(preferred(0)), []int{0})
	isInts(t, "preferred of 3", slices.Collect(preferred(3)), []int{0, 1, -1, 2, -2, 3, -3})
	for stop := range 7 {
		var got []int
		for lag := range preferred(3) {
			got = append(got, lag)
			if len(got) > stop {
				break
			}
		}
		isInt(t, "lags that are left at once", len(got), stop+1)
	}
}

// P1 and R4.
func TestAnyLags(t *testing.T) {
	r := seeded()
	for range 1000 {
		x, y := anySeries(r), anySeries(r)
		most, lag := extreme(r), extreme(r)
		if at, got, e := Lag(x, y, most); e != api.OK && (at != 0 || !got.Zero()) {
			t.Fatal("a lag with an error")
		}
		proof, e := Proof(x, y, most)
		if e != api.OK && len(proof) > 0 {
			t.Fatal("a proof with an error")
		}
		proof, unchanged := behind(t, proof, frac("7"), func(a, b num.Frac) bool { return a.Same(b) })
		if ok, e := Proves(x, y, most, lag, proof); ok && e != api.OK {
			t.Fatal("a proof with an error")
		}
		unchanged()
		for _, f := range []func(x, y []float32, lag int) (num.Frac, api.Errno){Lagged, Bound, Steady} {
			if got, e := f(x, y, lag); e != api.OK && !got.Zero() {
				t.Fatal("a number with an error")
			}
		}
	}
}
