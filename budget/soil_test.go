package budget_test

import (
	"math"
	"math/big"
	"math/rand"
	"testing"

	"fluxmast/api"
	"fluxmast/budget"
	"fluxmast/num"
)

// P9.1 and P9.3: soil heat.

// wave is the complex number with both parts of a text.
func wave(text string) num.Wave {
	parts := fracs(text)
	return num.Join(parts[0], parts[1])
}

// waves is three complex numbers, each of which has both parts in a text.
func waves(l ...string) [3]num.Wave {
	return [3]num.Wave{wave(l[0]), wave(l[1]), wave(l[2])}
}

func day(text string) [4]num.Frac {
	return [4]num.Frac(fracs(text))
}

func waveText(w num.Wave) string {
	return w.Re().Text() + " " + w.Im().Text()
}

func isWaves(t testing.TB, what string, got, want [3]num.Wave) {
	t.Helper()
	for h := range got {
		isText(t, what, waveText(got[h]), waveText(want[h]))
	}
}

// slowSample has a formula for each power of i.
func slowSample(l [3]num.Wave, j int) *big.Rat {
	mean, re, im, last := rat(l[0].Re()), rat(l[1].Re()), rat(l[1].Im()), rat(l[2].Re())
	switch j % 4 {
	case 0:
		return ratAdd(ratAdd(mean, re), last)
	case 1, -3:
		return ratSub(ratSub(mean, im), last)
	case 2, -2:
		return ratAdd(ratSub(mean, re), last)
	}
	return ratSub(ratAdd(mean, im), last)
}

func randomWave(r *rand.Rand) num.Wave {
	return num.Join(randomFrac(r), randomFrac(r))
}

func randomWaves(r *rand.Rand) [3]num.Wave {
	return [3]num.Wave{randomWave(r), randomWave(r), randomWave(r)}
}

func randomDay(r *rand.Rand) [4]num.Frac {
	return [4]num.Frac{randomFrac(r), randomFrac(r), randomFrac(r), randomFrac(r)}
}

// anyTime is an integer, often a very great one.
func anyTime(r *rand.Rand) int {
	return []int{r.Intn(20) - 10, int(r.Uint64()), extreme(r)}[r.Intn(3)]
}

func TestHarmonics(t *testing.T) {
	for _, c := range []struct {
		samples string
		want    [3]num.Wave
	}{
		{"10 16 14 8", waves("12 0", "-2 -4", "0 0")},
		{"1 -1 1 -1", waves("0 0", "0 0", "1 0")},
		{"7 7 7 7", waves("7 0", "0 0", "0 0")},
		{"1 0 -1 0", waves("0 0", "1 0", "0 0")},
		{"0 1 0 -1", waves("0 0", "0 -1", "0 0")},
		{"1 0 0 0", waves("1/4 0", "1/2 0", "1/4 0")},
		{"0 1 0 0", waves("1/4 0", "0 -1/2", "-1/4 0")},
		{"0 0 1 0", waves("1/4 0", "-1/2 0", "1/4 0")},
		{"0 0 0 1", waves("1/4 0", "0 1/2", "-1/4 0")},
		{"0 0 0 0", waves("0 0", "0 0", "0 0")},
		{"1/2 1/3 1/5 1/7", waves("247/840 0", "3/20 -2/21", "47/840 0")},
	} {
		isWaves(t, "Harmonics of "+c.samples, budget.Harmonics(day(c.samples)), c.want)
	}
}

func TestHarmonicsModel(t *testing.T) {
	r := seeded()
	for range 500 {
		l := randomDay(r)
		a, b, c, d := rat(l[0]), rat(l[1]), rat(l[2]), rat(l[3])
		got := budget.Harmonics(l)
		isRat(t, "the mean", got[0].Re(), ratQuo(ratAdd(ratAdd(a, b), ratAdd(c, d)), ratOf(4)))
		isRat(t, "the middle one", got[1].Re(), ratQuo(ratSub(a, c), ratOf(2)))
		isRat(t, "the middle one", got[1].Im(), ratQuo(ratSub(d, b), ratOf(2)))
		isRat(t, "the last one", got[2].Re(), ratQuo(ratSub(ratAdd(a, c), ratAdd(b, d)), ratOf(4)))
		isTrue(t, "the first and the last one are real", got[0].Im().Zero() && got[2].Im().Zero())
		for j, x := range l {
			isText(t, "Sample of Harmonics", budget.Sample(got, j).Text(), x.Text())
			for _, later := range []int{j + 4, j - 4, j + 4*r.Intn(1<<40), j - 4*r.Intn(1<<40)} {
				isText(t, "Sample of Harmonics, days later", budget.Sample(got, later).Text(), x.Text())
			}
		}
	}
}

func TestSample(t *testing.T) {
	w := waves("12 5", "-2 -4", "1/2 7")
	for _, c := range []struct {
		j    int
		want string
	}{
		{0, "21/2"}, {1, "31/2"}, {2, "29/2"}, {3, "15/2"}, {4, "21/2"}, {5, "31/2"},
		{-1, "15/2"}, {-2, "29/2"}, {-3, "31/2"}, {-4, "21/2"}, {-5, "15/2"}, {-6, "29/2"},
		{math.MaxInt, "15/2"}, {math.MaxInt - 1, "29/2"}, {math.MaxInt - 2, "31/2"}, {math.MaxInt - 3, "21/2"},
		{math.MinInt, "21/2"}, {math.MinInt + 1, "31/2"}, {math.MinInt + 2, "29/2"}, {math.MinInt + 3, "15/2"},
		{1 << 62, "21/2"}, {1<<62 + 1, "31/2"}, {-1<<62 - 1, "15/2"},
	} {
		isText(t, "Sample", budget.Sample(w, c.j).Text(), c.want)
	}
	r := seeded()
	for range 1000 {
		x, y, j := randomWaves(r), randomWaves(r), anyTime(r)
		got, other := budget.Sample(x, j), budget.Sample(y, j)
		isRat(t, "Sample", got, slowSample(x, j))
		sum := [3]num.Wave{x[0].Add(y[0]), x[1].Add(y[1]), x[2].Add(y[2])}
		isText(t, "Sample of a sum", budget.Sample(sum, j).Text(), got.Add(other).Text())
		if j <= math.MaxInt-4 {
			isText(t, "Sample four samples later", budget.Sample(x, j+4).Text(), got.Text())
		}
	}
}

func TestDamp(t *testing.T) {
	w := budget.Harmonics(day("10 16 14 8"))
	for _, c := range []struct {
		what   string
		l      [3]num.Wave
		ratio  [3]num.Wave
		layers int
		want   [3]num.Wave
		code   api.Errno
	}{
		{"the example", w, waves("1 0", "1/2 0", "1/4 0"), 1, waves("12 0", "-1 -2", "0 0"), api.OK},
		{"three layers", waves("16 0", "16 0", "16 0"), waves("1 0", "1/2 0", "1/4 0"), 3, waves("16 0", "2 0", "1/4 0"), api.OK},
		{"a turn", w, waves("0 0", "0 1", "0 0"), 2, waves("0 0", "2 4", "0 0"), api.OK},
		{"turns of each one", waves("1 2", "1 2", "1 2"), waves("-1 0", "0 1", "0 -1"), 1, waves("-1 -2", "-2 1", "2 -1"), api.OK},
		{"no layer", w, waves("0 0", "0 0", "0 0"), 0, w, api.OK},
		{"16 layers", waves("1 0", "1 0", "1 0"), waves("2 0", "1/2 0", "1 1"), 16, waves("65536 0", "1/65536 0", "256 0"), api.OK},
		{"17 layers", w, w, 17, waves("0 0", "0 0", "0 0"), api.ErrArg},
		{"fewer than none", w, w, -1, waves("0 0", "0 0", "0 0"), api.ErrArg},
		{"the fewest", w, w, math.MinInt, waves("0 0", "0 0", "0 0"), api.ErrArg},
		{"the most", w, w, math.MaxInt, waves("0 0", "0 0", "0 0"), api.ErrArg},
	} {
		got, e := budget.Damp(c.l, c.ratio, c.layers)
		isCode(t, "Damp by "+c.what, e, c.code)
		isWaves(t, "Damp by "+c.what, got, c.want)
	}
	isWaves(t, "the argument of Damp stays", w, waves("12 0", "-2 -4", "0 0"))
}

func dampOf(t testing.TB, l, ratio [3]num.Wave, layers int) [3]num.Wave {
	t.Helper()
	return right[[3]num.Wave](t, "Damp")(budget.Damp(l, ratio, layers))
}

func TestDampLayers(t *testing.T) {
	r := seeded()
	for range 300 {
		l, ratio := randomWaves(r), randomWaves(r)
		m := r.Intn(17)
		n := r.Intn(17 - m)
		isWaves(t, "Damp by no layer", dampOf(t, l, ratio, 0), l)
		isWaves(t, "Damp by m and then by n", dampOf(t, dampOf(t, l, ratio, m), ratio, n), dampOf(t, l, ratio, m+n))
		// A layer, by the parts of a product.
		for h, x := range dampOf(t, l, ratio, 1) {
			a, b, c, d := rat(l[h].Re()), rat(l[h].Im()), rat(ratio[h].Re()), rat(ratio[h].Im())
			isRat(t, "Damp", x.Re(), ratSub(ratMul(a, c), ratMul(b, d)))
			isRat(t, "Damp", x.Im(), ratAdd(ratMul(a, d), ratMul(b, c)))
		}
		if layers := extreme(r); layers < 0 || layers > 16 {
			got, e := budget.Damp(l, ratio, layers)
			isCode(t, "Damp by wrong layers", e, api.ErrArg)
			isWaves(t, "Damp by wrong layers", got, [3]num.Wave{})
		}
	}
}
