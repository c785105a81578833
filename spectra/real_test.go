package spectra_test

import (
	"math"
	"math/big"
	"testing"

	"fluxmast/api"
	"fluxmast/spectra"
)

// P6.1 and P6.6: real numbers.

// nearZero is numbers above 0 and below 2^-160, with great coefficients: lattices have led to them.
func nearZero() []cyc {
	return []cyc{
		realCyc(7163763180472755, -39172573990036630, 22448914020978924, 43730867356883117),
		realCyc(16280349914165729, 12889017232393973, -55896233959094336, 50894630537355872),
		realCyc(-26283556757642657, -5001603421738464, 34170970568298166, -16723659969057706),
		realCyc(-10003206843476928, 7887413810655509, -21725263390796170, 34170970568298166),
	}
}

func realText(t testing.TB, x cyc, k int) string {
	t.Helper()
	b, e := spectra.Real(x, k)
	isCode(t, "Real", e, api.OK)
	return b.Text()
}

func TestReal(t *testing.T) {
	for _, c := range []struct {
		x    cyc
		k    int
		want string
	}{
		{cyc{1: 1, 7: -1}, 2, "[7/4,2]"},
		{cyc{}, 5, "[0,0]"},
		{whole(-7), 300, "[-7,-7]"},
		{cyc{4: 3}, 0, "[0,0]"},
		{cyc{1: 1}, 0, "[1/2,1]"},
		{cyc{7: 1}, 0, "[-1,-1/2]"},
		{cyc{2: 1}, 1, "[1/2,3/4]"},
		{cyc{6: 1}, 1, "[-3/4,-1/2]"},
		{cyc{3: 1}, 0, "[0,1/2]"},
		{cyc{5: 1}, 0, "[-1/2,0]"},
		{cyc{3: 1}, 1, "[1/4,1/2]"},
		{realCyc(0, 1, 0, 0), -3, "[1,2]"},
		{realCyc(0, 0, 1, 0), 2, "[5/4,3/2]"},
		{realCyc(0, 0, 0, 1), 2, "[1/2,1]"},
		{realCyc(5, -1, 2, -3), 2, "[5/2,19/4]"},
		{cyc{1: 1, 7: 1}, 8, "[0,0]"},
		{cyc{10, 1, 1, 1, 1, 1, 1, 1}, 3, "[10,10]"},
	} {
		isText(t, "Real", realText(t, c.x, c.k), c.want)
	}
}

func TestRealModel(t *testing.T) {
	r := seeded()
	counts := []int{math.MinInt, -1, 0, 1, 2, 3, 10, 40, 64, 100, 255, 256, 257, math.MaxInt}
	numbers := append(asGreat(1<<56), nearZero()...)
	for range 60 {
		numbers = append(numbers, randomCyc(r, 1<<56), randomReal(r, 1<<10))
	}
	for _, x := range numbers {
		for _, k := range counts {
			isText(t, "Real", realText(t, x, k), slowReal(x, k).text())
		}
	}
}

func TestRealErrors(t *testing.T) {
	for _, x := range tooGreat(1 << 56) {
		got, e := spectra.Real(x, 10)
		isCode(t, "Real", e, api.ErrArg)
		isText(t, "Real with an error", got.Text(), "[0,0]")
		isSign(t, "Sign of a number that is not right", x, 0, api.ErrArg)
	}
}

func TestRealHasTheRealPart(t *testing.T) {
	r := seeded()
	for range 200 {
		x, y := randomCyc(r, 1<<55), randomCyc(r, 1<<55)
		k := r.Intn(80)
		bx, _ := spectra.Real(x, k)
		by, _ := spectra.Real(y, k)
		bs, e := spectra.Real(add(t, x, y), k)
		isCode(t, "Real of a sum", e, api.OK)
		_, e = bs.Meet(bx.Add(by))
		isCode(t, "Real of a sum meets the sum", e, api.OK)
		more, _ := spectra.Real(x, k+1+r.Intn(80))
		isTrue(t, "with more bits the band lies in that with fewer ones", more.In(bx))

		exact := preciseReal(x)
		lo, hi := precise().SetRat(rat(bx.Lo())), precise().SetRat(rat(bx.Hi()))
		isTrue(t, "Real has the real part", lo.Cmp(exact) <= 0 && exact.Cmp(hi) <= 0)
		size := int64(0)
		for _, a := range x {
			size += int64(max(a, -a))
		}
		widest := ratQuo(big.NewRat(size, 1), new(big.Rat).SetInt(new(big.Int).Lsh(big.NewInt(1), uint(k))))
		isTrue(t, "Real is no wider than by rounding", rat(bx.Width()).Cmp(widest) <= 0)
	}
}

func isSign(t testing.TB, what string, x cyc, want int, wantCode api.Errno) {
	t.Helper()
	got, e := spectra.Sign(x)
	isCode(t, what, e, wantCode)
	isInt(t, what, got, want)
}

func TestSign(t *testing.T) {
	for _, c := range []struct {
		x    cyc
		want int
		code api.Errno
	}{
		{cyc{}, 0, api.OK},
		{whole(1), 1, api.OK},
		{whole(-1), -1, api.OK},
		{whole(1 << 56), 1, api.OK},
		{whole(-1 << 56), -1, api.OK},
		{realCyc(0, 1, 0, 0), 1, api.OK},
		{realCyc(0, 0, -1, 0), -1, api.OK},
		{realCyc(0, 0, 0, 1), 1, api.OK},
		{realCyc(-2, 1, 0, 0), -1, api.OK},
		{realCyc(-1, 0, 1, 0), 1, api.OK},
		{realCyc(1, 0, 0, -1), 1, api.OK},
		// the root of 2, nearly, from both sides
		{realCyc(-1414213562373095, 0, 1e15, 0), 1, api.OK},
		{realCyc(-1414213562373096, 0, 1e15, 0), -1, api.OK},
		{realCyc(-47321, 0, 33461, 0), 1, api.OK},
		{realCyc(-114243, 0, 80782, 0), -1, api.OK},
		{realCyc(1<<56, 1<<56, 1<<56, 1<<56), 1, api.OK},
		{realCyc(-1<<56, -1<<56, -1<<56, -1<<56), -1, api.OK},
		{cyc{4: 1}, 0, api.ErrNone},
		{cyc{1: 1}, 0, api.ErrNone},
		{cyc{3: 1, 5: 1}, 0, api.ErrNone},
		{cyc{1 << 56, 0, 0, 0, 1}, 0, api.ErrNone},
		{cyc{1<<56 + 1, 0, 0, 0, 1}, 0, api.ErrArg},
		{cyc{0, 1, 0, 0, -1<<56 - 1}, 0, api.ErrArg},
	} {
		isSign(t, "Sign", c.x, c.want, c.code)
	}
}

func TestSignNearZero(t *testing.T) {
	least := precise().SetMantExp(big.NewFloat(1), -160)
	for _, x := range nearZero() {
		isTrue(t, "it is below 2^-160", preciseReal(x).Cmp(least) < 0)
		b, _ := spectra.Real(x, 200)
		isTrue(t, "200 bits do not tell it from 0", b.Lo().Sign() < 0 && b.Hi().Sign() > 0)
		isSign(t, "Sign near 0", x, 1, api.OK)
		isSign(t, "Sign near 0, below it", minus(x), -1, api.OK)
	}
	// Powers of the root of 2, less 1.
	x, step := whole(1), realCyc(-1, 0, 1, 0)
	for range 20 {
		x = mul(t, x, step)
		isSign(t, "Sign of a power", x, 1, api.OK)
		isSign(t, "Sign of a power, negated", minus(x), -1, api.OK)
	}
}

func TestSignLaws(t *testing.T) {
	r := seeded()
	for range 400 {
		x, y := randomReal(r, 1<<25), randomReal(r, 1<<25)
		sx, sy := sign(t, x), sign(t, y)
		isInt(t, "Sign is that of the real part", sx, preciseReal(x).Sign())
		isInt(t, "Sign of the opposite", sign(t, minus(x)), -sx)
		isInt(t, "Sign of a product", sign(t, mul(t, x, y)), sx*sy)
		if sx == sy {
			isInt(t, "Sign of a sum", sign(t, add(t, x, y)), sx)
		}
		b, e := spectra.Real(x, r.Intn(40))
		isCode(t, "Real", e, api.OK)
		if b.Lo().Sign() == b.Hi().Sign() {
			isInt(t, "Sign agrees with Real", sx, b.Lo().Sign())
		}
		great := randomReal(r, 1<<56)
		isInt(t, "Sign of a great number", sign(t, great), preciseReal(great).Sign())
	}
}

func TestGreatest(t *testing.T) {
	const most = 1 << 55
	tiny := nearZero()[2]
	for _, c := range []struct {
		what string
		l    []cyc
		want int
	}{
		{"one number", []cyc{whole(-5)}, 0},
		{"equal numbers", []cyc{whole(3), whole(3), whole(3)}, 0},
		{"a later greatest one, twice", []cyc{whole(1), whole(2), whole(4), whole(3), whole(4)}, 2},
		{"descending numbers", []cyc{whole(3), whole(2), whole(1)}, 0},
		{"numbers below 0", []cyc{whole(-3), whole(-1), whole(-2)}, 1},
		{"the root of 2 and numbers next to it", []cyc{whole(1), realCyc(0, 0, 1, 0), realCyc(0, 0, 0, 1)}, 1},
		{"three cosines", []cyc{realCyc(0, 0, 0, 1), realCyc(0, 0, 1, 0), realCyc(0, 1, 0, 0)}, 2},
		{"numbers that hardly differ", []cyc{{}, tiny, {}}, 1},
		{"numbers that hardly differ, below 0", []cyc{minus(tiny), {}, minus(tiny)}, 1},
		{"the greatest coefficients", []cyc{whole(-most), realCyc(-most, -most, -most, -most), whole(most), realCyc(most, most, most, most)}, 3},
		{"16 numbers", append(make([]cyc, 15), realCyc(-1, 0, 1, 0)), 15},
	} {
		got, e := spectra.Greatest(c.l)
		isCode(t, "Greatest of "+c.what, e, api.OK)
		isInt(t, "Greatest of "+c.what, got, c.want)
	}
}

func TestGreatestErrors(t *testing.T) {
	unreal := cyc{4: 1}
	for _, c := range []struct {
		what string
		l    []cyc
		want api.Errno
	}{
		{"no list", nil, api.ErrSize},
		{"no number", []cyc{}, api.ErrSize},
		{"17 numbers", make([]cyc, 17), api.ErrSize},
		{"17 numbers, one not right", append(make([]cyc, 16), whole(math.MinInt)), api.ErrSize},
		{"17 numbers, one not real", append(make([]cyc, 16), unreal), api.ErrSize},
		{"a first number that is not real", []cyc{unreal, {}}, api.ErrNone},
		{"a last number that is not real", append(make([]cyc, 15), unreal), api.ErrNone},
		{"just a number that is not real", []cyc{unreal}, api.ErrNone},
		{"a number that is not real, ahead of one too great", []cyc{unreal, whole(1<<55 + 1)}, api.ErrNone},
		{"a number that is too great, ahead of one not real", []cyc{whole(1<<55 + 1), unreal}, api.ErrArg},
		{"a number that is too great, and not real", []cyc{{}, {1<<55 + 1, 1}}, api.ErrArg},
	} {
		got, e := spectra.Greatest(c.l)
		isCode(t, "Greatest of "+c.what, e, c.want)
		isInt(t, "Greatest of "+c.what, got, 0)
	}
	for _, x := range tooGreat(1 << 55) {
		_, e := spectra.Greatest([]cyc{whole(1), x})
		isCode(t, "Greatest of a number that is too great", e, api.ErrArg)
		_, e = spectra.Greatest([]cyc{x})
		isCode(t, "Greatest of just a number that is too great", e, api.ErrArg)
	}
}

func TestGreatestModel(t *testing.T) {
	r := seeded()
	for range 200 {
		l := make([]cyc, 1+r.Intn(16))
		for i := range l {
			l[i] = randomReal(r, []int{1, 2, 1 << 55}[r.Intn(3)])
		}
		want := 0
		for i, x := range l {
			if preciseReal(x).Cmp(preciseReal(l[want])) > 0 && x != l[want] {
				want = i
			}
		}
		got, e := spectra.Greatest(l)
		isCode(t, "Greatest", e, api.OK)
		isInt(t, "Greatest", got, want)
		for i, x := range l {
			above := sign(t, sub(t, l[got], x))
			isTrue(t, "it is not below any, and above those ahead of it", above > 0 || above == 0 && i >= got)
		}
	}
}

// slowReport is the floats next to the low ends of the real parts of x, and of x times -i.
func slowReport(x cyc) complex64 {
	re, _ := slowReal(x, 40).lo.Float32()
	im, _ := slowReal(slowMul(x, cyc{4: -1}), 40).lo.Float32()
	return complex(re, im)
}

func TestReport(t *testing.T) {
	got, e := spectra.Report([]cyc{{}, whole(-3), {4: 2}, {4: -2}, {5, 0, 0, 0, -6}, whole(1 << 56), whole(1<<24 + 1), whole(1<<24 + 3)})
	isCode(t, "Report", e, api.OK)
	want := []complex64{0, -3, 2i, -2i, 5 - 6i, 1 << 56, 1 << 24, 1<<24 + 4}
	isInt(t, "how many Report has", len(got), len(want))
	for i := range min(len(got), len(want)) {
		if got[i] != want[i] {
			t.Error("Report:", i, got[i], want[i])
		}
	}
	for _, l := range [][]cyc{nil, {}} {
		got, e = spectra.Report(l)
		isCode(t, "Report of nothing", e, api.OK)
		isInt(t, "Report of nothing", len(got), 0)
	}
}

func TestReportModel(t *testing.T) {
	r := seeded()
	numbers := append(asGreat(1<<56), nearZero()...)
	for n := range 16 {
		numbers = append(numbers, spectra.Root(n))
	}
	for range 100 {
		numbers = append(numbers, randomCyc(r, 1<<56), randomCyc(r, 100), randomReal(r, 1<<30))
	}
	for len(numbers) > 0 {
		count := min(len(numbers), 1+r.Intn(16))
		got, e := spectra.Report(numbers[:count])
		isCode(t, "Report", e, api.OK)
		isInt(t, "how many Report has", len(got), count)
		for i, c := range got {
			want := slowReport(numbers[i])
			if c != want || signs(c) != signs(want) {
				t.Error("Report:", numbers[i], c, want)
			}
		}
		numbers = numbers[count:]
	}
}

// signs is whether the parts are below 0, or -0.
func signs(c complex64) [2]bool {
	return [2]bool{math.Signbit(float64(real(c))), math.Signbit(float64(imag(c)))}
}

func TestReportErrors(t *testing.T) {
	is := func(what string, l []cyc, want api.Errno) {
		t.Helper()
		got, e := spectra.Report(l)
		isCode(t, "Report of "+what, e, want)
		isTrue(t, "Report has a zero value for "+what, want == api.OK || len(got) == 0)
	}
	is("16 numbers", make([]cyc, 16), api.OK)
	is("17 numbers", make([]cyc, 17), api.ErrSize)
	is("17 numbers, one not right", append([]cyc{whole(math.MaxInt)}, make([]cyc, 16)...), api.ErrSize)
	for _, x := range tooGreat(1 << 56) {
		is("a number that is not right", []cyc{x}, api.ErrArg)
		is("a last number that is not right", append(make([]cyc, 15), x), api.ErrArg)
	}
}

func TestRealsKeepTheirArguments(t *testing.T) {
	l, same := behind(t, []cyc{whole(1), realCyc(1, 2, 3, 4), whole(7)}, whole(99), equal[cyc])
	_, e := spectra.Greatest(l)
	isCode(t, "Greatest", e, api.OK)
	_, e = spectra.Report(l)
	isCode(t, "Report", e, api.OK)
	same()
}
