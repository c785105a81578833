package eddy

import (
	"math"
	"math/big"
	"math/rand"
	"slices"
	"strconv"
	"strings"
	"testing"

	"fluxmast/api"
	"fluxmast/num"
)

// The numbers of the tests come from a fixed seed.

func seeded() *rand.Rand {
	return rand.New(rand.NewSource(1))
}

func isCode(t testing.TB, what string, got, want api.Errno) {
	t.Helper()
	if got != want {
		t.Errorf("%s: error %d, want %d", what, got, want)
	}
}

func isText(t testing.TB, what, got, want string) {
	t.Helper()
	if got != want {
		t.Errorf("%s: %s, want %s", what, got, want)
	}
}

func isInt(t testing.TB, what string, got, want int) {
	t.Helper()
	if got != want {
		t.Errorf("%s: %d, want %d", what, got, want)
	}
}

func isInts(t testing.TB, what string, got, want []int) {
	t.Helper()
	if !slices.Equal(got, want) {
		t.Errorf("%s: %v, want %v", what, got, want)
	}
}

func isTrue(t testing.TB, what string, holds bool) {
	t.Helper()
	if !holds {
		t.Error("it does not hold:", what)
	}
}

// frac is the fraction with a text.
func frac(text string) num.Frac {
	x, e := num.Parse(text)
	if e != api.OK {
		panic("not a fraction: " + text)
	}
	return x
}

// fracs is the fractions of a text.
func fracs(text string) []num.Frac {
	var l []num.Frac
	for _, word := range strings.Fields(text) {
		l = append(l, frac(word))
	}
	return l
}

// ratios is the fractions of a text, which need not be in lowest terms.
func ratios(text string) []num.Frac {
	var l []num.Frac
	for _, word := range strings.Fields(text) {
		x, ok := new(big.Rat).SetString(word)
		if !ok {
			panic("not a fraction: " + word)
		}
		l = append(l, frac(x.RatString()))
	}
	return l
}

func fracsText(l ...num.Frac) string {
	var words []string
	for _, x := range l {
		words = append(words, x.Text())
	}
	return strings.Join(words, " ")
}

// band is the band between the fractions of a text.
func band(text string) num.Band {
	ends := fracs(text)
	b, e := num.Make(ends[0], ends[1])
	if e != api.OK || len(ends) != 2 {
		panic("not a band: " + text)
	}
	return b
}

// series is the samples of a text.
func series(text string) []float32 {
	var l []float32
	for _, word := range strings.Fields(text) {
		f, err := strconv.ParseFloat(word, 32)
		if err != nil {
			panic("not a sample: " + word)
		}
		l = append(l, float32(f))
	}
	return l
}

// copies is a series that rests.
func copies(sample float32, count int) []float32 {
	return slices.Repeat([]float32{sample}, count)
}

// m is the moments with the Count and the sums of a text: X, Y, XX, YY, XY.
func m(count int, sums string) Moments {
	l := fracs(sums)
	return Moments{Count: count, X: l[0], Y: l[1], XX: l[2], YY: l[3], XY: l[4]}
}

func momentsText(m Moments) string {
	return strconv.Itoa(m.Count) + ": " + fracsText(m.X, m.Y, m.XX, m.YY, m.XY)
}

// The models calculate with package big.

func rat(x num.Frac) *big.Rat {
	r, ok := new(big.Rat).SetString(x.Text())
	if !ok {
		panic("not a fraction: " + x.Text())
	}
	return r
}

func ratOf(n int) *big.Rat          { return big.NewRat(int64(n), 1) }
func add(x, y *big.Rat) *big.Rat    { return new(big.Rat).Add(x, y) }
func sub(x, y *big.Rat) *big.Rat    { return new(big.Rat).Sub(x, y) }
func mul(x, y *big.Rat) *big.Rat    { return new(big.Rat).Mul(x, y) }
func quo(x, y *big.Rat) *big.Rat    { return new(big.Rat).Quo(x, y) }
func isRatZero(x *big.Rat) bool     { return x.Sign() == 0 }
func ratAbs(x *big.Rat) *big.Rat    { return new(big.Rat).Abs(x) }
func sameRat(x, y *big.Rat) bool    { return x.Cmp(y) == 0 }
func ratOfFloat(f float32) *big.Rat { return new(big.Rat).SetFloat64(float64(f)) }

func rats(l []float32) []*big.Rat {
	var all []*big.Rat
	for _, f := range l {
		all = append(all, ratOfFloat(f))
	}
	return all
}

func ratMean(l []*big.Rat) *big.Rat {
	total := new(big.Rat)
	for _, x := range l {
		total.Add(total, x)
	}
	return quo(total, ratOf(len(l)))
}

// around is the numbers less their mean.
func around(l []*big.Rat) []*big.Rat {
	mean := ratMean(l)
	var all []*big.Rat
	for _, x := range l {
		all = append(all, sub(x, mean))
	}
	return all
}

func products(a, b []*big.Rat) []*big.Rat {
	var all []*big.Rat
	for i, x := range a {
		all = append(all, mul(x, b[i]))
	}
	return all
}

// slowCovariance is the mean of the products of both series, each less its mean.
func slowCovariance(x, y []float32) *big.Rat {
	return ratMean(products(around(rats(x)), around(rats(y))))
}

func isRat(t testing.TB, what string, got num.Frac, want *big.Rat) {
	t.Helper()
	if !sameRat(rat(got), want) {
		t.Errorf("%s: %s, want %s", what, got.Text(), want.RatString())
	}
}

// randomFrac is most often a small number, and at times one with many digits.
func randomFrac(r *rand.Rand) num.Frac {
	part := func(n, d int64) num.Frac {
		x, _ := num.New(n, d)
		return x
	}
	switch r.Intn(8) {
	case 0:
		return num.Frac{}
	case 1:
		return part(r.Int63()-math.MaxInt64/2, 1+r.Int63n(1<<40)).Mul(part(r.Int63(), 1+r.Int63()))
	case 2, 3:
		return part(r.Int63n(2001)-1000, 1+r.Int63n(60))
	}
	return num.Int(r.Int63n(13) - 6)
}

// randomAbove is a number above 0.
func randomAbove(r *rand.Rand) num.Frac {
	for {
		if x := randomFrac(r).Abs(); !x.Zero() {
			return x
		}
	}
}

func randomBand(r *rand.Rand) num.Band {
	return num.Only(randomFrac(r)).Hull(num.Only(randomFrac(r)))
}

// anySample is any float32 that is a number.
func anySample(r *rand.Rand) float32 {
	for {
		f := math.Float32frombits(r.Uint32())
		if f == f && !math.IsInf(float64(f), 0) {
			return f
		}
	}
}

// smallSample is a quarter of a small whole number, at times -0.
func smallSample(r *rand.Rand) float32 {
	if r.Intn(20) == 0 {
		return float32(math.Copysign(0, -1))
	}
	return float32(r.Intn(41)-20) / 4
}

// fewSample is one of so few numbers that series often have equal covariances.
func fewSample(r *rand.Rand) float32 {
	return float32(r.Intn(3) - 1)
}

// randomSeries is a series of count samples, all of one kind.
func randomSeries(r *rand.Rand, count int) []float32 {
	kind := [](func(*rand.Rand) float32){anySample, smallSample, smallSample, fewSample, fewSample}[r.Intn(5)]
	l := make([]float32, count)
	for i := range l {
		l[i] = kind(r)
	}
	return l
}

func randomPair(r *rand.Rand, least, most int) (x, y []float32) {
	count := least + r.Intn(most-least+1)
	return randomSeries(r, count), randomSeries(r, count)
}

// sumsOf is the moments of two series.
func sumsOf(t testing.TB, x, y []float32) Moments {
	t.Helper()
	got, e := Of(x, y)
	isCode(t, "Of", e, api.OK)
	return got
}

// anySeries is a series that is often none that a function takes.
func anySeries(r *rand.Rand) []float32 {
	l := randomSeries(r, []int{0, 1, 2, 3, 16, 17, 64, 65}[r.Intn(8)])
	if len(l) > 0 && r.Intn(4) == 0 {
		l[r.Intn(len(l))] = notNumbers()[r.Intn(3)]
	}
	return l
}

func notNumbers() [3]float32 {
	return [3]float32{float32(math.NaN()), float32(math.Inf(1)), float32(math.Inf(-1))}
}

// extreme is a number that is likely to be just inside or outside of a limit.
func extreme(r *rand.Rand) int {
	limits := []int{0, 1, 2, 8, 16, 17, 64, 1 << 40, math.MaxInt, math.MinInt, math.MaxInt / 2}
	n := limits[r.Intn(len(limits))] + r.Intn(3) - 1
	if r.Intn(3) == 0 {
		return -n
	}
	return n
}

// behind is l in memory that goes on behind its end, with a function that tests that nothing there was changed.
func behind[T any](t testing.TB, l []T, mark T, same func(a, b T) bool) ([]T, func()) {
	t.Helper()
	memory := append(append([]T{}, l...), mark, mark)
	before := append([]T{}, memory...)
	return memory[:len(l)], func() {
		t.Helper()
		for i, x := range memory {
			if !same(x, before[i]) {
				t.Errorf("the argument's element %d was changed", i)
			}
		}
	}
}

func sameBits(a, b float32) bool {
	return math.Float32bits(a) == math.Float32bits(b)
}

// The errors of series.

type seriesCase struct {
	what string
	x    []float32
	want api.Errno
}

func seriesCases() []seriesCase {
	nan, infinite, below := notNumbers()[0], notNumbers()[1], notNumbers()[2]
	return []seriesCase{
		{"no list", nil, api.ErrSize},
		{"no sample", []float32{}, api.ErrSize},
		{"65 samples", make([]float32, 65), api.ErrSize},
		{"65 samples that are no numbers", copies(nan, 65), api.ErrSize},
		{"a sample that is not a number", append(make([]float32, 20), nan, 1), api.ErrArg},
		{"a first sample that is infinite", append([]float32{infinite}, make([]float32, 20)...), api.ErrArg},
		{"a last sample that is infinite below 0", append(make([]float32, 63), below), api.ErrArg},
		{"just a sample that is not a number", []float32{nan}, api.ErrArg},
	}
}

// isErrorOfSeries tests the errors of a function of one series, which come ahead of all its others.
func isErrorOfSeries(t *testing.T, name string, call func(x []float32) (zero bool, e api.Errno)) {
	t.Helper()
	for _, c := range seriesCases() {
		zero, e := call(c.x)
		isCode(t, name+" with "+c.what, e, c.want)
		isTrue(t, name+" has zero values with "+c.what, zero)
	}
}

// isErrorOfTwo tests the errors of a function of two series, which come ahead of all its others.
func isErrorOfTwo(t *testing.T, name string, call func(x, y []float32) (zero bool, e api.Errno)) {
	t.Helper()
	is := func(what string, x, y []float32, want api.Errno) {
		t.Helper()
		zero, e := call(x, y)
		isCode(t, name+" with "+what, e, want)
		isTrue(t, name+" has zero values with "+what, zero)
	}
	for _, c := range seriesCases() {
		is("x of "+c.what, c.x, series("1 2"), c.want)
		is("y of "+c.what, series("1 2"), c.x, c.want)
		for _, d := range seriesCases() {
			is("x of "+c.what+" and y of "+d.what, c.x, d.x, c.want)
		}
	}
	is("a longer x", series("1 2 3"), series("1 2"), api.ErrSize)
	is("a longer y", make([]float32, 63), make([]float32, 64), api.ErrSize)
}
