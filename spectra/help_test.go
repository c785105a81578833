package spectra_test

import (
	"math"
	"math/big"
	"math/rand"
	"slices"
	"strings"
	"testing"

	"fluxmast/api"
	"fluxmast/num"
	"fluxmast/spectra"
)

// The numbers of the tests come from a fixed seed.

func seeded() *rand.Rand {
	return rand.New(rand.NewSource(1))
}

func isCode(t testing.TB, what string, got, want api.Errno) {
	t.Helper()
	if got != want {
		t.Errorf("%s: error %d, want %d", what, got, want)
	}
}

func isText(t testing.TB, what, got, want string) {
	t.Helper()
	if got != want {
		t.Errorf("%s: %s, want %s", what, got, want)
	}
}

func isInt(t testing.TB, what string, got, want int) {
	t.Helper()
	if got != want {
		t.Errorf("%s: %d, want %d", what, got, want)
	}
}

func isInts(t testing.TB, what string, got, want []int) {
	t.Helper()
	if !slices.Equal(got, want) {
		t.Errorf("%s: %v, want %v", what, got, want)
	}
}

func isCyc(t testing.TB, what string, got, want cyc) {
	t.Helper()
	if got != want {
		t.Errorf("%s: %v, want %v", what, got, want)
	}
}

func isCycs(t testing.TB, what string, got, want []cyc) {
	t.Helper()
	if !slices.Equal(got, want) {
		t.Errorf("%s: %v, want %v", what, got, want)
	}
}

func isTrue(t testing.TB, what string, holds bool) {
	t.Helper()
	if !holds {
		t.Error("it does not hold:", what)
	}
}

// right returns what is made of a result and its error: the result, after a test that there is no error.
func right[T any](t testing.TB, what string) func(x T, e api.Errno) T {
	return func(x T, e api.Errno) T {
		t.Helper()
		isCode(t, what, e, api.OK)
		return x
	}
}

// frac is the fraction with a text.
func frac(text string) num.Frac {
	x, e := num.Parse(text)
	if e != api.OK {
		panic("not a fraction: " + text)
	}
	return x
}

// fracs is the fractions of a text.
func fracs(text string) []num.Frac {
	var l []num.Frac
	for _, word := range strings.Fields(text) {
		l = append(l, frac(word))
	}
	return l
}

// band is the band between the fractions of a text.
func band(text string) num.Band {
	ends := fracs(text)
	b, e := num.Make(ends[0], ends[1])
	if e != api.OK || len(ends) != 2 {
		panic("not a band: " + text)
	}
	return b
}

// bands is the bands between the fractions of a text, two by two.
func bands(text string) []num.Band {
	var l []num.Band
	for ends := range slices.Chunk(strings.Fields(text), 2) {
		l = append(l, band(strings.Join(ends, " ")))
	}
	return l
}

// Numbers of the ring.

type cyc = spectra.Cyc

func add(t testing.TB, x, y cyc) cyc {
	t.Helper()
	return right[cyc](t, "Add")(spectra.Add(x, y))
}

func sub(t testing.TB, x, y cyc) cyc {
	t.Helper()
	return right[cyc](t, "Sub")(spectra.Sub(x, y))
}

func mul(t testing.TB, x, y cyc) cyc {
	t.Helper()
	return right[cyc](t, "Mul")(spectra.Mul(x, y))
}

func conj(t testing.TB, x cyc) cyc {
	t.Helper()
	return right[cyc](t, "Conj")(spectra.Conj(x))
}

func isReal(t testing.TB, x cyc) bool {
	t.Helper()
	return right[bool](t, "IsReal")(spectra.IsReal(x))
}

func sign(t testing.TB, x cyc) int {
	t.Helper()
	return right[int](t, "Sign")(spectra.Sign(x))
}

func sumOf(t testing.TB, l []cyc) cyc {
	t.Helper()
	var sum cyc
	for _, x := range l {
		sum = add(t, sum, x)
	}
	return sum
}

// whole is a whole number of the ring.
func whole(n int) cyc {
	return cyc{n}
}

// realCyc is the real number a + b (z - z^7) + c (z^2 - z^6) + d (z^3 - z^5).
func realCyc(a, b, c, d int) cyc {
	return cyc{a, b, c, d, 0, -d, -c, -b}
}

func minus(x cyc) cyc {
	for i := range x {
		x[i] = -x[i]
	}
	return x
}

// randomInt is a number whose absolute value is at most most; often it is small, or most itself.
func randomInt(r *rand.Rand, most int) int {
	n := r.Intn(most + 1)
	switch r.Intn(5) {
	case 0:
		n = most
	case 1:
		n = 0
	case 2, 3:
		n %= 10
	}
	if r.Intn(2) == 0 {
		return -n
	}
	return n
}

// randomCyc is a number whose coefficients have absolute values of at most most.
func randomCyc(r *rand.Rand, most int) cyc {
	var x cyc
	for i := range x {
		x[i] = randomInt(r, most)
	}
	return x
}

func randomReal(r *rand.Rand, most int) cyc {
	return realCyc(randomInt(r, most), randomInt(r, most), randomInt(r, most), randomInt(r, most))
}

// lengths is how many samples a block may have.
func lengths() []int {
	return []int{2, 4, 8, 16}
}

func randomBlock(r *rand.Rand, n, most int) []int {
	l := make([]int, n)
	for i := range l {
		l[i] = randomInt(r, most)
	}
	return l
}

// Models: they calculate with package big, and follow the text.

// slowMul multiplies coefficient by coefficient; z^8 is -1.
func slowMul(x, y cyc) cyc {
	var z cyc
	for i, a := range x {
		for j, b := range y {
			if i+j < 8 {
				z[i+j] += a * b
			} else {
				z[i+j-8] -= a * b
			}
		}
	}
	return z
}

// slowRoot multiplies as often as z has to be multiplied, by z or by its inverse.
func slowRoot(n int) cyc {
	step := cyc{1: 1}
	if n < 0 {
		n, step = -n, cyc{7: -1}
	}
	x := cyc{1}
	for range n {
		x = slowMul(x, step)
	}
	return x
}

// precise is a float with so many bits that it tells real numbers of the ring from 0.
func precise() *big.Float {
	return new(big.Float).SetPrec(1000)
}

// preciseReal is the real part, by the cosines of one, two and three sixteenths of a turn.
func preciseReal(x cyc) *big.Float {
	r := precise().Sqrt(big.NewFloat(2).SetPrec(1000))
	u := precise().Sqrt(precise().Add(big.NewFloat(2), r))
	v := precise().Sqrt(precise().Sub(big.NewFloat(2), r))
	sum := precise().SetInt64(int64(x[0]))
	for i, cosine := range []*big.Float{u, r, v} {
		half := precise().Quo(precise().SetInt64(int64(x[1+i]-x[7-i])), big.NewFloat(2))
		sum.Add(sum, precise().Mul(half, cosine))
	}
	return sum
}

// nearly is the number, nearly.
func nearly(x cyc) complex128 {
	var sum complex128
	for i, a := range x {
		sin, cos := math.Sincos(float64(i) * math.Pi / 8)
		sum += complex(float64(a)*cos, float64(a)*sin)
	}
	return sum
}

// areNear reports whether two numbers with an absolute value of at most size are the same, but for roundings.
func areNear(x, y complex128, size float64) bool {
	return math.Hypot(real(x-y), imag(x-y)) <= 1e-9*(1+size)
}

func ratOf(n int) *big.Rat { return big.NewRat(int64(n), 1) }

func rat(x num.Frac) *big.Rat {
	r, ok := new(big.Rat).SetString(x.Text())
	if !ok {
		panic("not a fraction: " + x.Text())
	}
	return r
}

func ratAdd(x, y *big.Rat) *big.Rat { return new(big.Rat).Add(x, y) }
func ratMul(x, y *big.Rat) *big.Rat { return new(big.Rat).Mul(x, y) }
func ratQuo(x, y *big.Rat) *big.Rat { return new(big.Rat).Quo(x, y) }

// interval is a band of the models.
type interval struct{ lo, hi *big.Rat }

func (i interval) text() string {
	return "[" + i.lo.RatString() + "," + i.hi.RatString() + "]"
}

func (i interval) add(j interval) interval {
	return interval{ratAdd(i.lo, j.lo), ratAdd(i.hi, j.hi)}
}

// times is the interval of all products with one number.
func (i interval) times(x *big.Rat) interval {
	if x.Sign() < 0 {
		return interval{ratMul(x, i.hi), ratMul(x, i.lo)}
	}
	return interval{ratMul(x, i.lo), ratMul(x, i.hi)}
}

func only(x *big.Rat) interval {
	return interval{x, x}
}

// root is the interval from the multiple of 2^-k at or below the root of lo to that at or above the root of hi.
func (i interval) root(k int) interval {
	unit := new(big.Int).Lsh(big.NewInt(1), uint(k))
	below := func(x *big.Rat) (n *big.Int, exact bool) {
		square := ratMul(x, new(big.Rat).SetInt(new(big.Int).Mul(unit, unit)))
		n = new(big.Int).Sqrt(new(big.Int).Quo(square.Num(), square.Denom()))
		return n, new(big.Rat).SetInt(new(big.Int).Mul(n, n)).Cmp(square) == 0
	}
	lo, _ := below(i.lo)
	hi, exact := below(i.hi)
	if !exact {
		hi.Add(hi, big.NewInt(1))
	}
	return interval{new(big.Rat).SetFrac(lo, unit), new(big.Rat).SetFrac(hi, unit)}
}

// slowReal is the band of Real, part by part.
func slowReal(x cyc, k int) interval {
	k = min(max(k, 0), 256)
	two := only(ratOf(2))
	r := two.root(k)
	u, v := two.add(r).root(k), two.add(r.times(ratOf(-1))).root(k)
	half := func(a, b int) *big.Rat { return big.NewRat(int64(a-b), 2) }
	return only(ratOf(x[0])).
		add(u.times(half(x[1], x[7]))).
		add(r.times(half(x[2], x[6]))).
		add(v.times(half(x[3], x[5])))
}

// tooGreat is numbers that have a coefficient whose absolute value is above most.
func tooGreat(most int) []cyc {
	var l []cyc
	for i := range (cyc{}) {
		for _, a := range []int{most + 1, -most - 1, 2 * most, math.MaxInt, math.MinInt, math.MinInt + 1} {
			x := realCyc(1, 2, 3, 4)
			x[i] = a
			l = append(l, x)
		}
	}
	return l
}

// asGreat is numbers that have coefficients whose absolute value is just most.
func asGreat(most int) []cyc {
	all := cyc{most, most, most, most, most, most, most, most}
	l := []cyc{all, minus(all), realCyc(most, most, most, most), realCyc(-most, most, -most, most)}
	for i := range (cyc{}) {
		var x cyc
		x[i] = most
		l = append(l, x, minus(x))
	}
	return l
}

// behind is l in memory that goes on behind its end, with a function that tests that nothing there was changed.
func behind[T any](t testing.TB, l []T, mark T, same func(a, b T) bool) ([]T, func()) {
	t.Helper()
	memory := append(append([]T{}, l...), mark, mark)
	before := append([]T{}, memory...)
	return memory[:len(l)], func() {
		t.Helper()
		for i, x := range memory {
			if !same(x, before[i]) {
				t.Errorf("the argument's element %d was changed", i)
			}
		}
	}
}

func equal[T comparable](a, b T) bool { return a == b }

// The errors of blocks.

type blockCase struct {
	what string
	l    []int
	want api.Errno
}

func blockCases() []blockCase {
	with := func(n, at, sample int) []int {
		l := make([]int, n)
		l[at] = sample
		return l
	}
	cases := []blockCase{
		{"no list", nil, api.ErrSize},
		{"17 samples, one too great", with(17, 3, 1<<20+1), api.ErrSize},
		{"3 samples, one too great", with(3, 0, math.MinInt), api.ErrSize},
		{"a first sample too great", with(2, 0, 1<<20+1), api.ErrArg},
		{"a last sample too great", with(16, 15, 1<<20+1), api.ErrArg},
		{"a sample too far below 0", with(8, 4, -1<<20-1), api.ErrArg},
		{"the least sample", with(4, 1, math.MinInt), api.ErrArg},
		{"the greatest sample", with(4, 2, math.MaxInt), api.ErrArg},
	}
	for _, n := range []int{0, 1, 3, 5, 6, 7, 9, 12, 15, 17, 32, 64} {
		cases = append(cases, blockCase{"as many samples as a block has not", make([]int, n), api.ErrSize})
	}
	return cases
}

// isErrorOfTwo tests the errors of a function of two blocks, which come ahead of all its others.
func isErrorOfTwo(t *testing.T, name string, call func(x, y []int) (zero bool, e api.Errno)) {
	t.Helper()
	is := func(what string, x, y []int, want api.Errno) {
		t.Helper()
		zero, e := call(x, y)
		isCode(t, name+" with "+what, e, want)
		isTrue(t, name+" has zero values with "+what, zero || want == api.OK)
	}
	for _, c := range blockCases() {
		for _, n := range lengths() {
			is("x of "+c.what, c.l, make([]int, n), c.want)
			is("y of "+c.what, make([]int, n), c.l, c.want)
		}
		for _, d := range blockCases() {
			is("x of "+c.what+" and y of "+d.what, c.l, d.l, c.want)
		}
	}
	for _, m := range lengths() {
		for _, n := range lengths() {
			want := api.OK
			if m != n {
				want = api.ErrSize
			}
			is("blocks of other lengths", make([]int, m), make([]int, n), want)
		}
	}
	great := slices.Repeat([]int{1 << 20}, 16)
	is("the greatest samples", great, great, api.OK)
	low := slices.Repeat([]int{-1 << 20}, 16)
	is("the least samples", low, great, api.OK)
}

// The errors of transforms.

type transformsCase struct {
	what string
	l    []cyc
	want api.Errno
}

func transformsCases() []transformsCase {
	cases := []transformsCase{{"no list", nil, api.ErrSize}}
	for _, n := range []int{0, 1, 3, 5, 6, 7, 9, 12, 15, 17, 32} {
		cases = append(cases, transformsCase{"as many numbers as there are not", make([]cyc, n), api.ErrSize})
	}
	for _, x := range tooGreat(1 << 28) {
		cases = append(cases,
			transformsCase{"3 numbers, one not small", []cyc{{}, x, {}}, api.ErrSize},
			transformsCase{"a first number that is not small", []cyc{x, {}}, api.ErrArg},
			transformsCase{"a last number that is not small", []cyc{{}, {}, {}, x}, api.ErrArg})
	}
	return cases
}
