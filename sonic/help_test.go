package sonic

import (
	"math"
	"math/big"
	"math/rand"
	"strings"
	"testing"

	"fluxmast/api"
	"fluxmast/num"
)

// The numbers of the tests come from a fixed seed.

func seeded() *rand.Rand {
	return rand.New(rand.NewSource(1))
}

func isCode(t testing.TB, what string, got, want api.Errno) {
	t.Helper()
	if got != want {
		t.Errorf("%s: error %d, want %d", what, got, want)
	}
}

func isText(t testing.TB, what, got, want string) {
	t.Helper()
	if got != want {
		t.Errorf("%s: %s, want %s", what, got, want)
	}
}

func ratio(n, d int64) num.Frac {
	x, _ := num.New(n, d)
	return x
}

// frac is the fraction with a text.
func frac(text string) num.Frac {
	x, e := num.Parse(text)
	if e != api.OK {
		panic("not a fraction: " + text)
	}
	return x
}

// vec is the vector with a text: three fractions.
func vec(text string) Vec {
	words := strings.Fields(text)
	if len(words) != 3 {
		panic("not a vector: " + text)
	}
	return Vec{frac(words[0]), frac(words[1]), frac(words[2])}
}

func vecs(texts ...string) []Vec {
	var l []Vec
	for _, text := range texts {
		l = append(l, vec(text))
	}
	return l
}

func mat(rows ...string) Mat {
	return Mat(vecs(rows...))
}

func text(v Vec) string {
	return v[0].Text() + " " + v[1].Text() + " " + v[2].Text()
}

func matText(m Mat) string {
	return text(m[0]) + ", " + text(m[1]) + ", " + text(m[2])
}

func planeText(p Plane) string {
	return p.B0.Text() + " " + p.B1.Text() + " " + p.B2.Text()
}

func fracsText(l []num.Frac) string {
	var words []string
	for _, x := range l {
		words = append(words, x.Text())
	}
	return strings.Join(words, " ")
}

func fitsText(l []Fitted) string {
	var words []string
	for _, f := range l {
		word := planeText(f.Plane)
		if !f.Known {
			word = "(" + word + ")"
		}
		words = append(words, word)
	}
	return strings.Join(words, ", ")
}

const (
	noVec  = "0 0 0"
	noMat  = "0 0 0, 0 0 0, 0 0 0"
	sample = "3/7 -2 5"
)

// The models calculate with package big.

func rat(x num.Frac) *big.Rat {
	r, ok := new(big.Rat).SetString(x.Text())
	if !ok {
		panic("not a fraction: " + x.Text())
	}
	return r
}

func add(x, y *big.Rat) *big.Rat { return new(big.Rat).Add(x, y) }
func sub(x, y *big.Rat) *big.Rat { return new(big.Rat).Sub(x, y) }
func mul(x, y *big.Rat) *big.Rat { return new(big.Rat).Mul(x, y) }
func quo(x, y *big.Rat) *big.Rat { return new(big.Rat).Quo(x, y) }

// product is the product of two vectors.
func product(v, w Vec) *big.Rat {
	sum := new(big.Rat)
	for i := range v {
		sum = add(sum, mul(rat(v[i]), rat(w[i])))
	}
	return sum
}

func isRat(t testing.TB, what string, got num.Frac, want *big.Rat) {
	t.Helper()
	if rat(got).Cmp(want) != 0 {
		t.Errorf("%s: %s, want %s", what, got.Text(), want.RatString())
	}
}

// randomFrac is most often a small number, and at times one with many digits.
func randomFrac(r *rand.Rand) num.Frac {
	switch r.Intn(8) {
	case 0:
		return num.Frac{}
	case 1:
		return ratio(r.Int63()-math.MaxInt64/2, 1+r.Int63n(1<<40)).Mul(ratio(r.Int63(), 1+r.Int63()))
	case 2, 3:
		return ratio(r.Int63n(2001)-1000, 1+r.Int63n(60))
	}
	return num.Int(r.Int63n(13) - 6)
}

func randomVec(r *rand.Rand) Vec {
	return Vec{randomFrac(r), randomFrac(r), randomFrac(r)}
}

func randomMat(r *rand.Rand) Mat {
	return Mat{randomVec(r), randomVec(r), randomVec(r)}
}

func randomVecs(r *rand.Rand, count int) []Vec {
	l := make([]Vec, count)
	for i := range l {
		l[i] = randomVec(r)
	}
	return l
}

// randomTurn is a turn that has no error.
func randomTurn(r *rand.Rand) Turn {
	most := 3
	if r.Intn(2) == 0 {
		most = 1 << r.Intn(21)
	}
	part := func() int { return r.Intn(2*most+1) - most }
	for {
		if t := (Turn{part(), part(), part(), part()}); t != (Turn{}) {
			return t
		}
	}
}

// extreme is a number that is likely to be just inside or outside of a limit.
func extreme(r *rand.Rand) int {
	limits := []int{0, 1, 20, 1000000, 1 << 20, 1 << 30, 1 << 31, 1 << 32, math.MaxInt, math.MinInt, math.MaxInt / 2}
	n := limits[r.Intn(len(limits))] + r.Intn(3) - 1
	if r.Intn(3) == 0 {
		return -n
	}
	return n
}

// behind is l in memory that goes on behind its end, with a function that tests that nothing there was changed.
func behind[T any](t testing.TB, l []T, mark T, same func(a, b T) bool) ([]T, func()) {
	t.Helper()
	memory := append(append([]T{}, l...), mark, mark)
	before := append([]T{}, memory...)
	return memory[:len(l)], func() {
		t.Helper()
		for i, x := range memory {
			if !same(x, before[i]) {
				t.Errorf("the argument's element %d was changed", i)
			}
		}
	}
}

func sameVec(v, w Vec) bool {
	return v[0].Same(w[0]) && v[1].Same(w[1]) && v[2].Same(w[2])
}

func sameShade(a, b Shade) bool {
	return a.From.Same(b.From) && a.Factor.Same(b.Factor)
}

func samePoint(a, b api.Point) bool {
	return a == b
}
