package gas

import (
	"math"
	"math/big"
	"math/rand"
	"slices"
	"strings"
	"testing"

	"fluxmast/api"
	"fluxmast/num"
)

// The numbers of the tests come from a fixed seed.

func seeded() *rand.Rand {
	return rand.New(rand.NewSource(1))
}

func isCode(t testing.TB, what string, got, want api.Errno) {
	t.Helper()
	if got != want {
		t.Errorf("%s: error %d, want %d", what, got, want)
	}
}

func isText(t testing.TB, what, got, want string) {
	t.Helper()
	if got != want {
		t.Errorf("%s: %s, want %s", what, got, want)
	}
}

func isInts(t testing.TB, what string, got, want []int) {
	t.Helper()
	if !slices.Equal(got, want) {
		t.Errorf("%s: %v, want %v", what, got, want)
	}
}

func isTrue(t testing.TB, what string, holds bool) {
	t.Helper()
	if !holds {
		t.Error("it does not hold:", what)
	}
}

// frac is the fraction with a text.
func frac(text string) num.Frac {
	x, e := num.Parse(text)
	if e != api.OK {
		panic("not a fraction: " + text)
	}
	return x
}

// fracs is the fractions of a text.
func fracs(text string) []num.Frac {
	var l []num.Frac
	for _, word := range strings.Fields(text) {
		l = append(l, frac(word))
	}
	return l
}

func fracsText(l []num.Frac) string {
	var words []string
	for _, x := range l {
		words = append(words, x.Text())
	}
	return strings.Join(words, " ")
}

// band is the band between the fractions of a text.
func band(text string) num.Band {
	ends := fracs(text)
	b, e := num.Make(ends[0], ends[1])
	if e != api.OK || len(ends) != 2 {
		panic("not a band: " + text)
	}
	return b
}

func powerOf2(n int) num.Frac {
	return frac(new(big.Int).Lsh(big.NewInt(1), uint(n)).String())
}

// tiny is a number that is nearly 0.
func tiny() num.Frac {
	return over(whole(1), powerOf2(1000))
}

// The models calculate with package big.

func rat(x num.Frac) *big.Rat {
	r, ok := new(big.Rat).SetString(x.Text())
	if !ok {
		panic("not a fraction: " + x.Text())
	}
	return r
}

func add(x, y *big.Rat) *big.Rat { return new(big.Rat).Add(x, y) }
func sub(x, y *big.Rat) *big.Rat { return new(big.Rat).Sub(x, y) }
func mul(x, y *big.Rat) *big.Rat { return new(big.Rat).Mul(x, y) }
func quo(x, y *big.Rat) *big.Rat { return new(big.Rat).Quo(x, y) }

func isRat(t testing.TB, what string, got num.Frac, want *big.Rat) {
	t.Helper()
	if rat(got).Cmp(want) != 0 {
		t.Errorf("%s: %s, want %s", what, got.Text(), want.RatString())
	}
}

// randomFrac is most often a small number, and at times one with many digits.
func randomFrac(r *rand.Rand) num.Frac {
	part := func(n, d int64) num.Frac {
		x, _ := num.New(n, d)
		return x
	}
	switch r.Intn(8) {
	case 0:
		return num.Frac{}
	case 1:
		return part(r.Int63()-math.MaxInt64/2, 1+r.Int63n(1<<40)).Mul(part(r.Int63(), 1+r.Int63()))
	case 2, 3:
		return part(r.Int63n(2001)-1000, 1+r.Int63n(60))
	}
	return num.Int(r.Int63n(13) - 6)
}

// randomAbove is a number above 0.
func randomAbove(r *rand.Rand) num.Frac {
	for {
		if x := randomFrac(r).Abs(); !x.Zero() {
			return x
		}
	}
}

// randomPart is a number from 0 to 1.
func randomPart(r *rand.Rand) num.Frac {
	n := 1 + r.Intn(9)
	return over(whole(r.Intn(n+1)), whole(n))
}

// randomUpTo is a number from 0 to most.
func randomUpTo(r *rand.Rand, most num.Frac) num.Frac {
	return most.Mul(randomPart(r))
}

// randomIn is a number of a band, at times one of its ends.
func randomIn(r *rand.Rand, b num.Band) num.Frac {
	return b.Lo().Add(b.Width().Mul(randomPart(r)))
}

func randomBand(r *rand.Rand) num.Band {
	return num.Only(randomFrac(r)).Hull(num.Only(randomFrac(r)))
}

func randomFracs(r *rand.Rand, count int) []num.Frac {
	l := make([]num.Frac, count)
	for i := range l {
		l[i] = randomFrac(r)
	}
	return l
}

// extreme is a number that is likely to be just inside or outside of a limit.
func extreme(r *rand.Rand) int {
	limits := []int{0, 1, 3, 7, 256, 10000, 1 << 20, 1 << 40, math.MaxInt, math.MinInt, math.MaxInt / 2}
	n := limits[r.Intn(len(limits))] + r.Intn(3) - 1
	if r.Intn(3) == 0 {
		return -n
	}
	return n
}

func extremes(r *rand.Rand, count int) []int {
	l := make([]int, count)
	for i := range l {
		l[i] = extreme(r)
	}
	return l
}

// behind is l in memory that goes on behind its end, with a function that tests that nothing there was changed.
func behind[T any](t testing.TB, l []T, mark T, same func(a, b T) bool) ([]T, func()) {
	t.Helper()
	memory := append(append([]T{}, l...), mark, mark)
	before := append([]T{}, memory...)
	return memory[:len(l)], func() {
		t.Helper()
		for i, x := range memory {
			if !same(x, before[i]) {
				t.Errorf("the argument's element %d was changed", i)
			}
		}
	}
}

func equal[T comparable](a, b T) bool {
	return a == b
}
