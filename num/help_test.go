package num

import (
	"math/big"
	"math/rand"
	"slices"
	"testing"

	"fluxmast/api"
)

// The tests hold the package against math/big, and their numbers come from a fixed seed.

func seeded() *rand.Rand {
	return rand.New(rand.NewSource(1))
}

// bigInt is a number of limbs for math/big.
func bigInt(x limbs) *big.Int {
	n := new(big.Int)
	for i := len(x) - 1; i >= 0; i-- {
		n.Lsh(n, 64).Or(n, new(big.Int).SetUint64(x[i]))
	}
	return n
}

// toLimbs is a number of math/big that is not below 0.
func toLimbs(n *big.Int) limbs {
	var x limbs
	mask := new(big.Int).SetUint64(1<<64 - 1)
	for n = new(big.Int).Set(n); n.Sign() > 0; n.Rsh(n, 64) {
		x = append(x, new(big.Int).And(n, mask).Uint64())
	}
	return x
}

func bigRat(x Frac) *big.Rat {
	r := new(big.Rat).SetFrac(bigInt(x.top), bigInt(x.under()))
	if x.negative {
		r.Neg(r)
	}
	return r
}

func toFrac(r *big.Rat) Frac {
	return ratio(r.Sign() < 0, toLimbs(new(big.Int).Abs(r.Num())), toLimbs(r.Denom()))
}

// frac is the fraction with a text.
func frac(t testing.TB, s string) Frac {
	t.Helper()
	x, e := Parse(s)
	if e != api.OK {
		t.Fatalf("Parse %s: error %d", s, e)
	}
	return x
}

// band is the band between the fractions with two texts.
func band(t testing.TB, lo, hi string) Band {
	t.Helper()
	x, e := Make(frac(t, lo), frac(t, hi))
	if e != api.OK {
		t.Fatalf("Make %s, %s: error %d", lo, hi, e)
	}
	return x
}

// isFrac tests a fraction against one of math/big, and that it has the only form of its number.
func isFrac(t testing.TB, what string, got Frac, want *big.Rat) {
	t.Helper()
	r := bigRat(got)
	if r.Cmp(want) != 0 {
		t.Fatalf("%s: %s, want %s", what, got.Text(), want.RatString())
	}
	form := toFrac(want)
	if got.negative != form.negative || !slices.Equal(got.top, form.top) || !slices.Equal(got.bottom, form.bottom) {
		t.Fatalf("%s: %v is not the form of %s", what, got, want.RatString())
	}
}

func isText(t testing.TB, what, got, want string) {
	t.Helper()
	if got != want {
		t.Errorf("%s: %s, want %s", what, got, want)
	}
}

func isCode(t testing.TB, what string, got, want api.Errno) {
	t.Helper()
	if got != want {
		t.Errorf("%s: error %d, want %d", what, got, want)
	}
}

// isBand tests a band by its text, without an error.
func isBand(t testing.TB, what string, x Band, e api.Errno, want string) {
	t.Helper()
	isCode(t, what, e, api.OK)
	isText(t, what, x.Text(), want)
}

// noBand tests that there is an error, with the zero value.
func noBand(t testing.TB, what string, x Band, e, want api.Errno) {
	t.Helper()
	isCode(t, what, e, want)
	isText(t, what, x.Text(), "[0,0]")
}

// randomLimbs is a number of at most as many limbs, among them such with long rows of equal binary digits.
func randomLimbs(r *rand.Rand, most int) limbs {
	x := make(limbs, r.Intn(most+1))
	kind := r.Intn(4)
	for i := range x {
		switch {
		case kind == 0 || kind == 1 && r.Intn(2) == 0:
			x[i] = r.Uint64()
		case kind == 2 || r.Intn(2) == 0:
			x[i] = 1<<64 - 1
		case r.Intn(3) == 0:
			x[i] = 1 << r.Intn(64)
		}
	}
	return x.trim()
}

// randomFrac is a fraction of any kind: whole, small, binary, or large.
func randomFrac(r *rand.Rand) Frac {
	negative := r.Intn(2) == 0
	switch r.Intn(6) {
	case 0:
		return Int(r.Int63n(7) - 3)
	case 1:
		return ratio(negative, word(uint64(r.Intn(20))), word(uint64(r.Intn(20)+1)))
	case 2:
		return binary(negative, word(r.Uint64()), r.Intn(200))
	case 3:
		return build(negative, randomLimbs(r, 3), limbs{1})
	}
	most := 1 + r.Intn(6)
	return ratio(negative, randomLimbs(r, most), randomLimbs(r, most).add(limbs{1}))
}

func randomBand(r *rand.Rand) Band {
	x, y := randomFrac(r), randomFrac(r)
	if r.Intn(8) == 0 {
		y = x
	}
	return Only(x).Hull(Only(y))
}

// inside is a fraction of the band.
func inside(r *rand.Rand, x Band) Frac {
	part := ratio(false, word(uint64(r.Intn(9))), limbs{8})
	return x.lo.Add(x.Width().Mul(part))
}

// within is a band that lies in x.
func within(r *rand.Rand, x Band) Band {
	return Only(inside(r, x)).Hull(Only(inside(r, x)))
}
