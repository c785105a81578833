package gas

import (
	"math"
	"math/big"
	"math/rand"
	"slices"
	"testing"

	"fluxmast/api"
	"fluxmast/num"
)

// P4.1 and P4.3: harmonics.

func wave(re, im string) num.Wave {
	return num.Join(frac(re), frac(im))
}

func waveText(w num.Wave) string {
	return w.Re().Text() + " " + w.Im().Text()
}

// exact is the exact value of a sample.
func exact(c complex64) num.Wave {
	w, e := num.Complex(c)
	if e != api.OK {
		panic("not a number")
	}
	return w
}

// harmonics is all four harmonics of samples that have no error.
func harmonics(t testing.TB, samples []complex64) [4]num.Wave {
	t.Helper()
	var h [4]num.Wave
	for n := range h {
		var e api.Errno
		h[n], e = Harmonic(samples, n)
		isCode(t, "Harmonic", e, api.OK)
	}
	return h
}

func isWaves(t testing.TB, what string, got, want [4]num.Wave) {
	t.Helper()
	for n := range got {
		if !got[n].Same(want[n]) {
			t.Errorf("%s, %d: %s, want %s", what, n, waveText(got[n]), waveText(want[n]))
		}
	}
}

func TestHarmonic(t *testing.T) {
	for _, c := range []struct {
		what    string
		samples []complex64
		want    [4]num.Wave
	}{
		{"a turn", []complex64{1, 1i, -1, -1i}, [4]num.Wave{1: wave("1", "0")}},
		{"a turn back", []complex64{1, -1i, -1, 1i}, [4]num.Wave{3: wave("1", "0")}},
		{"steps", []complex64{1, -1, 1, -1}, [4]num.Wave{2: wave("1", "0")}},
		{"zeros", make([]complex64, 8), [4]num.Wave{}},
		{"a constant", []complex64{2 - 3i, 2 - 3i, 2 - 3i, 2 - 3i}, [4]num.Wave{wave("2", "-3")}},
		{"the second one", []complex64{0, 1, 0, 0}, [4]num.Wave{wave("1/4", "0"), wave("0", "-1/4"), wave("-1/4", "0"), wave("0", "1/4")}},
		{"the second one of a later period", []complex64{0, 0, 0, 0, 0, 0, 0, 0, 0, 1i, 0, 0}, [4]num.Wave{wave("0", "1/12"), wave("1/12", "0"), wave("0", "-1/12"), wave("-1/12", "0")}},
		{"1 to 4", []complex64{1, 2, 3, 4}, [4]num.Wave{wave("5/2", "0"), wave("-1/2", "1/2"), wave("-1/2", "0"), wave("-1/2", "-1/2")}},
	} {
		isWaves(t, "Harmonic of "+c.what, harmonics(t, c.samples), c.want)
	}
}

func TestHarmonicIsExact(t *testing.T) {
	great, small := float32(math.MaxFloat32), float32(math.SmallestNonzeroFloat32)
	samples := []complex64{complex(great, small), complex(-great, 0), complex(0, great), complex(small, -great)}
	unit := over(whole(1), powerOf2(149+2))
	h := harmonics(t, samples)
	isText(t, "Harmonic of great and small samples", waveText(h[0]), unit.Text()+" "+unit.Text())

	tenth, _ := num.Float(float64(float32(0.1)))
	h = harmonics(t, []complex64{0.1, 0.1, 0.1, 0.1})
	isText(t, "Harmonic of tenths", waveText(h[0]), tenth.Text()+" 0")
}

func TestHarmonicErrors(t *testing.T) {
	infinite, no := float32(math.Inf(1)), float32(math.NaN())
	with := func(count int, c complex64) []complex64 {
		samples := make([]complex64, count)
		samples[count-1] = c
		return samples
	}
	for _, c := range []struct {
		what    string
		samples []complex64
		n       int
		want    api.Errno
	}{
		{"256 samples", make([]complex64, 256), 3, api.OK},
		{"4 samples", make([]complex64, 4), 0, api.OK},
		{"no list", nil, 0, api.ErrSize},
		{"no sample", []complex64{}, 0, api.ErrSize},
		{"3 samples", make([]complex64, 3), 0, api.ErrSize},
		{"5 samples", make([]complex64, 5), 0, api.ErrSize},
		{"6 samples", make([]complex64, 6), 0, api.ErrSize},
		{"7 samples", make([]complex64, 7), 0, api.ErrSize},
		{"257 samples", make([]complex64, 257), 0, api.ErrSize},
		{"260 samples", make([]complex64, 260), 0, api.ErrSize},
		{"3 samples, one no number", with(3, complex(no, 0)), 4, api.ErrSize},
		{"no real number", with(4, complex(no, 0)), 0, api.ErrArg},
		{"no imaginary number", with(4, complex(0, no)), 0, api.ErrArg},
		{"an infinite real part", with(8, complex(infinite, 0)), 0, api.ErrArg},
		{"an infinite imaginary part", with(8, complex(0, infinite)), 0, api.ErrArg},
		{"an infinite part below 0", with(8, complex(0, -infinite)), 0, api.ErrArg},
		{"n below 0", make([]complex64, 4), -1, api.ErrArg},
		{"n above 3", make([]complex64, 4), 4, api.ErrArg},
		{"the least n", make([]complex64, 4), math.MinInt, api.ErrArg},
		{"the greatest n", make([]complex64, 4), math.MaxInt, api.ErrArg},
		{"n above 3 and 3 samples", make([]complex64, 3), 4, api.ErrSize},
	} {
		got, e := Harmonic(c.samples, c.n)
		isCode(t, "Harmonic with "+c.what, e, c.want)
		isText(t, "Harmonic with "+c.what, waveText(got), "0 0")
	}
}

func TestPattern(t *testing.T) {
	one := wave("1", "0")
	for n, want := range [4][4]num.Wave{
		{one, one, one, one},
		{one, wave("0", "1"), wave("-1", "0"), wave("0", "-1")},
		{one, wave("-1", "0"), one, wave("-1", "0")},
		{one, wave("0", "-1"), wave("-1", "0"), wave("0", "1")},
	} {
		var h [4]num.Wave
		h[n] = one
		isWaves(t, "Pattern", Pattern(h), want)
	}
	all := [4]num.Wave{wave("1/2", "0"), wave("0", "1/3"), wave("5", "7"), wave("-1", "1")}
	isWaves(t, "Pattern of all", Pattern(all), [4]num.Wave{wave("9/2", "25/3"), wave("-23/6", "-6"), wave("13/2", "17/3"), wave("-31/6", "-8")})
	isWaves(t, "Pattern of nothing", Pattern([4]num.Wave{}), [4]num.Wave{})
}

// turnBy is the sample (x, y) times the power of i with an exponent from 0 to 3.
func turnBy(x, y *big.Rat, exponent int) (*big.Rat, *big.Rat) {
	for range exponent {
		x, y = new(big.Rat).Neg(y), x
	}
	return x, y
}

func isHarmonic(t *testing.T, got num.Wave, samples []complex64, n int) {
	t.Helper()
	re, im := new(big.Rat), new(big.Rat)
	for j, sample := range samples {
		x, y := turnBy(new(big.Rat).SetFloat64(float64(real(sample))), new(big.Rat).SetFloat64(float64(imag(sample))), (3*n*j)%4)
		re, im = add(re, x), add(im, y)
	}
	count := big.NewRat(int64(len(samples)), 1)
	isRat(t, "the real part of Harmonic", got.Re(), quo(re, count))
	isRat(t, "the imaginary part of Harmonic", got.Im(), quo(im, count))
}

// randomFloats is samples of any float32s.
func randomFloats(r *rand.Rand) []complex64 {
	samples := make([]complex64, 4*(1+r.Intn(64)))
	part := func() float32 {
		for {
			if f := math.Float32frombits(r.Uint32()); f-f == 0 {
				return f
			}
		}
	}
	for i := range samples {
		samples[i] = complex(part(), part())
	}
	return samples
}

// randomSmall is samples whose sums are exact.
func randomSmall(r *rand.Rand, count int) []complex64 {
	samples := make([]complex64, count)
	part := func() float32 { return float32(r.Intn(4001)-2000) / 16 }
	for i := range samples {
		samples[i] = complex(part(), part())
	}
	return samples
}

func TestHarmonicModel(t *testing.T) {
	r := seeded()
	for range 30 {
		samples := randomFloats(r)
		for n, h := range harmonics(t, samples) {
			isHarmonic(t, h, samples, n)
		}
	}
}

func TestHarmonicOfSum(t *testing.T) {
	r := seeded()
	for range 50 {
		count := 4 * (1 + r.Intn(64))
		a, b := randomSmall(r, count), randomSmall(r, count)
		both := make([]complex64, count)
		for i := range both {
			both[i] = a[i] + b[i]
		}
		want := harmonics(t, a)
		for n, h := range harmonics(t, b) {
			want[n] = want[n].Add(h)
		}
		isWaves(t, "Harmonic of a sum", harmonics(t, both), want)
	}
}

func TestPatternIsMean(t *testing.T) {
	r := seeded()
	for range 30 {
		samples := randomFloats(r)
		var want [4]num.Wave
		for i, sample := range samples {
			want[i%4] = want[i%4].Add(exact(sample))
		}
		for j := range want {
			want[j], _ = want[j].Div(num.Join(whole(len(samples)/4), num.Frac{}))
		}
		isWaves(t, "Pattern of all harmonics", Pattern(harmonics(t, samples)), want)
	}
}

func TestLaterSamples(t *testing.T) {
	r := seeded()
	for range 30 {
		samples := randomFloats(r)
		last := len(samples) - 1
		later := append([]complex64{samples[last]}, samples[:last]...)
		want := harmonics(t, samples)
		turns := [4]num.Wave{wave("1", "0"), wave("0", "-1"), wave("-1", "0"), wave("0", "1")}
		for n := range want {
			want[n] = want[n].Mul(turns[n])
		}
		isWaves(t, "Harmonic of later samples", harmonics(t, later), want)
	}
}

func TestHarmonicOfConstant(t *testing.T) {
	r := seeded()
	for range 30 {
		c := randomFloats(r)[0]
		samples := slices.Repeat([]complex64{c}, 4*(1+r.Intn(64)))
		isWaves(t, "Harmonic of a constant", harmonics(t, samples), [4]num.Wave{exact(c)})
	}
}

// P1 and R4.
func TestAnySamples(t *testing.T) {
	r := seeded()
	for range 500 {
		bits := make([]complex64, r.Intn(10))
		for i := range bits {
			bits[i] = complex(math.Float32frombits(r.Uint32()), math.Float32frombits(r.Uint32()|0x7f<<24))
		}
		same := func(a, b complex64) bool {
			return math.Float32bits(real(a)) == math.Float32bits(real(b)) && math.Float32bits(imag(a)) == math.Float32bits(imag(b))
		}
		samples, unchanged := behind(t, bits, 7, same)
		if got, e := Harmonic(samples, extreme(r)); e != api.OK && !got.Zero() {
			t.Fatal("a number with an error")
		}
		unchanged()
	}
}
