package num

import (
	"math/big"
	"testing"
)

func isLimbs(t *testing.T, what string, got limbs, want *big.Int) {
	t.Helper()
	if len(got) > 0 && got[len(got)-1] == 0 {
		t.Fatalf("%s: a zero in front", what)
	}
	if bigInt(got).Cmp(want) != 0 {
		t.Fatalf("%s: %s, want %s", what, bigInt(got), want)
	}
}

// sizes are greatest numbers of limbs: a few, and enough for products by halves of halves.
func sizes() []int { return []int{1, 2, 3, 8, 60, 300} }

func TestLimbs(t *testing.T) {
	r := seeded()
	for _, most := range sizes() {
		for range 60000 / (most*most/4 + 40) {
			x, y := randomLimbs(r, most), randomLimbs(r, 1+r.Intn(most))
			a, b := bigInt(x), bigInt(y)
			n := r.Intn(64 * 3)
			isLimbs(t, "add", x.add(y), new(big.Int).Add(a, b))
			isLimbs(t, "sub", x.add(y).sub(y), a)
			isLimbs(t, "mul", x.mul(y), new(big.Int).Mul(a, b))
			isLimbs(t, "left", x.left(n), new(big.Int).Lsh(a, uint(n)))
			isLimbs(t, "right", x.right(n), new(big.Int).Rsh(a, uint(n)))
			isLimbs(t, "low", x.low(n), new(big.Int).Mod(a, bigInt(power(n))))
			if x.compare(y) != a.Cmp(b) || x.length() != a.BitLen() || x.zeros() != int(a.TrailingZeroBits()) {
				t.Fatalf("compare, length or zeros of %s and %s", a, b)
			}
			isText(t, "text", x.text(), a.String())
			isLimbs(t, "common", x.common(y), new(big.Int).GCD(nil, nil, a, b))
			isLimbs(t, "root", x.root(), new(big.Int).Sqrt(a))
			if bigInt(x).Cmp(a) != 0 || bigInt(y).Cmp(b) != 0 {
				t.Fatal("an argument was changed")
			}
		}
	}
}

func TestDivideLimbs(t *testing.T) {
	r := seeded()
	for _, most := range sizes() {
		for range 60000 / (most + 4) {
			x, y := randomLimbs(r, 2*most), randomLimbs(r, most)
			if len(y) == 0 {
				continue
			}
			if r.Intn(2) == 0 { // close to a multiple
				x = x.mul(y)
				if len(x) > 0 && r.Intn(2) == 0 {
					x = x.sub(limbs{1})
				}
			}
			q, rest := x.divide(y)
			a, b := new(big.Int).QuoRem(bigInt(x), bigInt(y), new(big.Int))
			isLimbs(t, "quotient", q, a)
			isLimbs(t, "rest", rest, b)
		}
	}
}

// Guesses that are too great by one and by two, and first digits that are equal.
func TestDivideByGuess(t *testing.T) {
	const top = 1<<64 - 1
	for _, x := range []limbs{
		{0, 0, 1 << 63, 1<<63 - 1}, {3, 0, 1 << 63}, {0, top - 1, top}, {0, 0, top - 1, top}, {top, top, top, top}, {0, 0, 0, 1 << 63, 1 << 62},
	} {
		for _, y := range []limbs{{1, 0, 1 << 63}, {top, 1 << 63}, {1, top}, {top, top}, {1, 0, 1 << 61}, {top, top, 1 << 63}, {top, 0, 1 << 63}} {
			q, rest := x.divide(y)
			a, b := new(big.Int).QuoRem(bigInt(x), bigInt(y), new(big.Int))
			isLimbs(t, "quotient", q, a)
			isLimbs(t, "rest", rest, b)
		}
	}
}

// Numbers of Fibonacci have the most steps of Euclid's, all with the quotient 1.
func TestCommonOfFibonacci(t *testing.T) {
	x, y := limbs{1}, limbs{1}
	for range 3000 {
		x, y = x.add(y), x
	}
	factor := limbs{12, 34, 56}
	isLimbs(t, "common", x.common(y), big.NewInt(1))
	isLimbs(t, "common", x.mul(factor).common(y.mul(factor)), bigInt(factor))
}
