package fill_test

import (
	"math"
	"math/big"
	"math/rand"
	"slices"
	"strings"
	"testing"

	"fluxmast/api"
	"fluxmast/fill"
	"fluxmast/num"
)

// The numbers of the tests come from a fixed seed.

func seeded() *rand.Rand {
	return rand.New(rand.NewSource(1))
}

func isCode(t testing.TB, what string, got, want api.Errno) {
	t.Helper()
	if got != want {
		t.Errorf("%s: error %d, want %d", what, got, want)
	}
}

func isText(t testing.TB, what, got, want string) {
	t.Helper()
	if got != want {
		t.Errorf("%s: %s, want %s", what, got, want)
	}
}

func isInt(t testing.TB, what string, got, want int) {
	t.Helper()
	if got != want {
		t.Errorf("%s: %d, want %d", what, got, want)
	}
}

// isList tests that two lists have the same elements.
func isList[T comparable](t testing.TB, what string, got, want []T) {
	t.Helper()
	if !slices.Equal(got, want) {
		t.Errorf("%s: %v, want %v", what, got, want)
	}
}

func isTrue(t testing.TB, what string, holds bool) {
	t.Helper()
	if !holds {
		t.Error("it does not hold:", what)
	}
}

func isRat(t testing.TB, what string, got num.Frac, want *big.Rat) {
	t.Helper()
	isText(t, what, got.Text(), want.RatString())
}

// isBand tests the ends of a band.
func isBand(t testing.TB, what string, got num.Band, lo, hi *big.Rat) {
	t.Helper()
	isText(t, what, got.Text(), "["+lo.RatString()+","+hi.RatString()+"]")
}

// isZero is whether a band is the zero value.
func isZero(b num.Band) bool {
	return b.Lo().Zero() && b.Hi().Zero()
}

// right returns what is made of a result and its error: the result, after a test that there is no error.
func right[T any](t testing.TB, what string) func(x T, e api.Errno) T {
	return func(x T, e api.Errno) T {
		t.Helper()
		isCode(t, what, e, api.OK)
		return x
	}
}

// Numbers.

// frac is the fraction with a text.
func frac(text string) num.Frac {
	x, e := num.Parse(text)
	if e != api.OK {
		panic("not a fraction: " + text)
	}
	return x
}

// fracs is the fractions of a text.
func fracs(text string) []num.Frac {
	var l []num.Frac
	for _, word := range strings.Fields(text) {
		l = append(l, frac(word))
	}
	return l
}

// band is the band between both fractions of a text.
func band(text string) num.Band {
	ends := fracs(text)
	b, e := num.Make(ends[0], ends[1])
	if e != api.OK || len(ends) != 2 {
		panic("not a band: " + text)
	}
	return b
}

func only(text string) num.Band {
	return num.Only(frac(text))
}

// tenPower is a text of a power of ten.
func tenPower(n int) string {
	return "1" + strings.Repeat("0", n)
}

// The models calculate with package big.

func rat(x num.Frac) *big.Rat {
	r, ok := new(big.Rat).SetString(x.Text())
	if !ok {
		panic("not a fraction: " + x.Text())
	}
	return r
}

// fracOf is the fraction of a model.
func fracOf(x *big.Rat) num.Frac {
	return frac(x.RatString())
}

func ratOf(n int) *big.Rat          { return big.NewRat(int64(n), 1) }
func ratAdd(x, y *big.Rat) *big.Rat { return new(big.Rat).Add(x, y) }
func ratSub(x, y *big.Rat) *big.Rat { return new(big.Rat).Sub(x, y) }
func ratMul(x, y *big.Rat) *big.Rat { return new(big.Rat).Mul(x, y) }
func ratQuo(x, y *big.Rat) *big.Rat { return new(big.Rat).Quo(x, y) }

func ratMean(l []*big.Rat) *big.Rat {
	sum := new(big.Rat)
	for _, x := range l {
		sum.Add(sum, x)
	}
	return sum.Quo(sum, ratOf(len(l)))
}

func power2(n int) *big.Int {
	return new(big.Int).Lsh(big.NewInt(1), uint(n))
}

// bitsOf is the number of bits for which k counts.
func bitsOf(k int) int {
	return min(max(k, 0), 256)
}

// slowExp is the band around e^x: the series of e^|x|, with so many more bits that there is just one such band.
func slowExp(x *big.Rat, k int) (lo, hi *big.Rat) {
	if x.Sign() == 0 {
		return ratOf(1), ratOf(1)
	}
	k = bitsOf(k)
	unit := power2(1024)
	part := new(big.Int).Mul(new(big.Int).Abs(x.Num()), unit)
	part.Quo(part, x.Denom())
	term, sum := unit, new(big.Int)
	for n := int64(1); term.Sign() > 0; n++ {
		sum.Add(sum, term)
		term = new(big.Int).Mul(term, part)
		term.Rsh(term, 1024)
		term.Quo(term, big.NewInt(n))
	}
	least := new(big.Rat).SetFrac(sum, unit)
	most := new(big.Rat).SetFrac(sum.Add(sum, power2(400)), unit) // more than all roundings for an x of at most 64
	if x.Sign() < 0 {
		least, most = new(big.Rat).Inv(most), new(big.Rat).Inv(least)
	}
	low, high := slowFloor(ratMul(least, new(big.Rat).SetInt(power2(k)))), slowFloor(ratMul(most, new(big.Rat).SetInt(power2(k))))
	if low.Cmp(high) != 0 {
		panic("too few bits for e to the power of " + x.RatString())
	}
	return new(big.Rat).SetFrac(low, power2(k)), new(big.Rat).SetFrac(high.Add(high, big.NewInt(1)), power2(k))
}

func slowFloor(x *big.Rat) *big.Int {
	return new(big.Int).Div(x.Num(), x.Denom())
}

// slowRoot is the band around the root of x.
func slowRoot(x *big.Rat, k int) (lo, hi *big.Rat) {
	k = bitsOf(k)
	scaled := ratMul(x, new(big.Rat).SetInt(power2(2*k)))
	root := new(big.Int).Sqrt(slowFloor(scaled))
	lo = new(big.Rat).SetFrac(root, power2(k))
	if ratMul(lo, lo).Cmp(x) == 0 {
		return lo, lo
	}
	return lo, ratAdd(lo, new(big.Rat).SetFrac(big.NewInt(1), power2(k)))
}

// Random numbers.

// randomFrac is most often a small number, and at times one with many digits.
func randomFrac(r *rand.Rand) num.Frac {
	part := func(n, d int64) num.Frac {
		x, _ := num.New(n, d)
		return x
	}
	switch r.Intn(8) {
	case 0:
		return num.Frac{}
	case 1:
		return part(r.Int63()-math.MaxInt64/2, 1+r.Int63n(1<<40)).Mul(part(r.Int63(), 1+r.Int63()))
	case 2, 3:
		return part(r.Int63n(2001)-1000, 1+r.Int63n(60))
	}
	return num.Int(r.Int63n(13) - 6)
}

// randomAbove is a number above 0.
func randomAbove(r *rand.Rand) num.Frac {
	for {
		if x := randomFrac(r).Abs(); !x.Zero() {
			return x
		}
	}
}

// randomShare is a number from 0 to 1.
func randomShare(r *rand.Rand) num.Frac {
	d := 1 + r.Int63n(9)
	x, _ := num.New(r.Int63n(d+1), d)
	return x
}

func randomBand(r *rand.Rand) num.Band {
	return num.Only(randomFrac(r)).Hull(num.Only(randomFrac(r)))
}

// within is a number of a band: the part of the way from its Lo to its Hi.
func within(b num.Band, part num.Frac) num.Frac {
	return b.Lo().Add(b.Width().Mul(part))
}

// randomIn is a number of a band, often one of its ends.
func randomIn(r *rand.Rand, b num.Band) num.Frac {
	return within(b, randomShare(r))
}

// extreme is a number that is likely to be just inside or outside of a limit.
func extreme(r *rand.Rand) int {
	limits := []int{0, 1, 8, 30, 32, 47, 48, 366, 1000, 2000, 4000, 1 << 16, 1 << 20, 1 << 40, math.MaxInt - 2, math.MinInt + 2}
	n := limits[r.Intn(len(limits))]
	if r.Intn(3) == 0 {
		n = -n
	}
	return n + r.Intn(5) - 2
}

// Arguments.

// behind is l in memory that goes on behind its end, with a function that tests that nothing there was changed.
func behind[T any](t testing.TB, l []T, mark T, same func(a, b T) bool) ([]T, func()) {
	t.Helper()
	memory := append(append([]T{}, l...), mark, mark)
	before := slices.Clone(memory)
	return memory[:len(l)], func() {
		t.Helper()
		isTrue(t, "an argument, and what is behind it, stays", slices.EqualFunc(memory, before, same))
	}
}

// scribble changes a result, which must not change what else there is.
func scribble[T any](l []T, mark T) {
	for i := range l {
		l[i] = mark
	}
}

func sameNight(a, b fill.Night) bool {
	return a.Friction.Same(b.Friction) && a.Flux.Same(b.Flux)
}

func sameHour(a, b fill.Hour) bool {
	return a.Day == b.Day && a.Slot == b.Slot && a.Light == b.Light && a.Temp == b.Temp && a.Known == b.Known && a.Flux.Same(b.Flux)
}

func sameBand(a, b num.Band) bool {
	return a.Lo().Same(b.Lo()) && a.Hi().Same(b.Hi())
}
