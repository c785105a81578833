package budget_test

import (
	"math"
	"math/big"
	"math/rand"
	"slices"
	"strings"
	"testing"

	"fluxmast/api"
	"fluxmast/num"
)

// The numbers of the tests come from a fixed seed.

func seeded() *rand.Rand {
	return rand.New(rand.NewSource(1))
}

func isCode(t testing.TB, what string, got, want api.Errno) {
	t.Helper()
	if got != want {
		t.Errorf("%s: error %d, want %d", what, got, want)
	}
}

func isText(t testing.TB, what, got, want string) {
	t.Helper()
	if got != want {
		t.Errorf("%s: %s, want %s", what, got, want)
	}
}

func isInt(t testing.TB, what string, got, want int) {
	t.Helper()
	if got != want {
		t.Errorf("%s: %d, want %d", what, got, want)
	}
}

// isList tests that two lists have the same elements.
func isList[T comparable](t testing.TB, what string, got, want []T) {
	t.Helper()
	if !slices.Equal(got, want) {
		t.Errorf("%s: %v, want %v", what, got, want)
	}
}

func isTrue(t testing.TB, what string, holds bool) {
	t.Helper()
	if !holds {
		t.Error("it does not hold:", what)
	}
}

func isRat(t testing.TB, what string, got num.Frac, want *big.Rat) {
	t.Helper()
	isText(t, what, got.Text(), want.RatString())
}

// right returns what is made of a result and its error: the result, after a test that there is no error.
func right[T any](t testing.TB, what string) func(x T, e api.Errno) T {
	return func(x T, e api.Errno) T {
		t.Helper()
		isCode(t, what, e, api.OK)
		return x
	}
}

// Numbers.

// frac is the fraction with a text.
func frac(text string) num.Frac {
	x, e := num.Parse(text)
	if e != api.OK {
		panic("not a fraction: " + text)
	}
	return x
}

// fracs is the fractions of a text.
func fracs(text string) []num.Frac {
	var l []num.Frac
	for _, word := range strings.Fields(text) {
		l = append(l, frac(word))
	}
	return l
}

// tiny is a number that is hardly above 0.
func tiny() num.Frac {
	return frac("1/1" + strings.Repeat("0", 300))
}

// The models calculate with package big.

func rat(x num.Frac) *big.Rat {
	r, ok := new(big.Rat).SetString(x.Text())
	if !ok {
		panic("not a fraction: " + x.Text())
	}
	return r
}

func ratOf(n int) *big.Rat          { return big.NewRat(int64(n), 1) }
func ratAdd(x, y *big.Rat) *big.Rat { return new(big.Rat).Add(x, y) }
func ratSub(x, y *big.Rat) *big.Rat { return new(big.Rat).Sub(x, y) }
func ratMul(x, y *big.Rat) *big.Rat { return new(big.Rat).Mul(x, y) }
func ratQuo(x, y *big.Rat) *big.Rat { return new(big.Rat).Quo(x, y) }

// Random numbers.

// randomFrac is most often a small number, and at times one with many digits.
func randomFrac(r *rand.Rand) num.Frac {
	part := func(n, d int64) num.Frac {
		x, _ := num.New(n, d)
		return x
	}
	switch r.Intn(8) {
	case 0:
		return num.Frac{}
	case 1:
		return part(r.Int63()-math.MaxInt64/2, 1+r.Int63n(1<<40)).Mul(part(r.Int63(), 1+r.Int63()))
	case 2, 3:
		return part(r.Int63n(2001)-1000, 1+r.Int63n(60))
	}
	return num.Int(r.Int63n(13) - 6)
}

// randomAbove is a number above 0.
func randomAbove(r *rand.Rand) num.Frac {
	for {
		if x := randomFrac(r).Abs(); !x.Zero() {
			return x
		}
	}
}

// randomInt is a number from least to most, often one of these or close to 0.
func randomInt(r *rand.Rand, least, most int) int {
	switch r.Intn(8) {
	case 0:
		return least
	case 1:
		return most
	case 2, 3:
		return least + r.Intn(most-least+1)
	}
	return min(max(r.Intn(21)-10, least), most)
}

func randomInts(r *rand.Rand, count, least, most int) []int {
	l := make([]int, count)
	for i := range l {
		l[i] = randomInt(r, least, most)
	}
	return l
}

// extreme is a number that is likely to be just inside or outside of a limit.
func extreme(r *rand.Rand) int {
	limits := []int{0, 1, 2, 8, 16, 64, 1440, 86400, 1 << 30, 1 << 40, 1 << 50, math.MaxInt - 2, math.MinInt + 2}
	n := limits[r.Intn(len(limits))]
	if r.Intn(3) == 0 {
		n = -n
	}
	return n + r.Intn(5) - 2
}

func extremes(r *rand.Rand, count int) []int {
	l := make([]int, count)
	for i := range l {
		l[i] = extreme(r)
	}
	return l
}

// outside is numbers that are not from least to most.
func outside(least, most int) []int {
	return []int{least - 1, most + 1, math.MinInt, math.MaxInt}
}

// Arguments.

// behind is l in memory that goes on behind its end, with a function that tests that nothing there was changed.
func behind[T any](t testing.TB, l []T, mark T, same func(a, b T) bool) ([]T, func()) {
	t.Helper()
	memory := append(append([]T{}, l...), mark, mark)
	before := slices.Clone(memory)
	return memory[:len(l)], func() {
		t.Helper()
		isTrue(t, "an argument, and what is behind it, stays", slices.EqualFunc(memory, before, same))
	}
}

func equal[T comparable](a, b T) bool {
	return a == b
}

// scribble changes a result, which must not change what else there is.
func scribble[T any](l []T, mark T) {
	for i := range l {
		l[i] = mark
	}
}

// shuffled is l in another order.
func shuffled[T any](r *rand.Rand, l []T) []T {
	other := slices.Clone(l)
	r.Shuffle(len(other), func(i, k int) { other[i], other[k] = other[k], other[i] })
	return other
}

// with is l with another element at an index.
func with[T any](l []T, at int, x T) []T {
	other := slices.Clone(l)
	other[at] = x
	return other
}
