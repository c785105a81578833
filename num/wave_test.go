package num

import (
	"math"
	"math/rand"
	"testing"

	"fluxmast/api"
)

// wave is the complex number with the parts of two texts.
func wave(t testing.TB, re, im string) Wave {
	t.Helper()
	return Join(frac(t, re), frac(t, im))
}

func isWave(t testing.TB, what string, x Wave, re, im string) {
	t.Helper()
	isText(t, what+", real part", x.Re().Text(), re)
	isText(t, what+", imaginary part", x.Im().Text(), im)
}

// P1.1: the calls for complex numbers.

func TestWaves(t *testing.T) {
	x, y := wave(t, "1", "2"), wave(t, "-1/2", "3")
	isWave(t, "Add", x.Add(y), "1/2", "5")
	isWave(t, "Sub", x.Sub(y), "3/2", "-1")
	isWave(t, "Mul", x.Mul(y), "-13/2", "2")
	isWave(t, "Mul of itself", x.Mul(x), "-3", "4")
	isWave(t, "Neg", x.Neg(), "-1", "-2")
	isWave(t, "Conj", x.Conj(), "1", "-2")
	isText(t, "Norm", x.Norm().Text(), "5")
	isWave(t, "the zero value", Wave{}, "0", "0")
	q, e := x.Div(y)
	isCode(t, "Div", e, api.OK)
	isWave(t, "Div", q, "22/37", "-16/37")
	q, e = wave(t, "1", "0").Div(wave(t, "0", "1"))
	isCode(t, "1/i", e, api.OK)
	isWave(t, "1/i", q, "0", "-1")
	q, e = x.Div(Wave{})
	isCode(t, "Div by 0", e, api.ErrZero)
	isWave(t, "Div by 0", q, "0", "0")
	if !(Wave{}).Zero() || !x.Sub(x).Zero() || wave(t, "0", "1").Zero() || wave(t, "1", "0").Zero() {
		t.Error("Zero")
	}
	if !x.Same(wave(t, "1", "2")) || x.Same(x.Conj()) || x.Same(wave(t, "2", "2")) {
		t.Error("Same")
	}
}

func TestComplex(t *testing.T) {
	x, e := Complex(complex(0.5, -0x1p-149))
	isCode(t, "Complex", e, api.OK)
	if isText(t, "Re", x.Re().Text(), "1/2"); !x.Im().Same(twos(-1, -149)) {
		t.Errorf("Im: %s", x.Im().Text())
	}
	inf, nan := float32(math.Inf(1)), float32(math.NaN())
	for _, c := range []complex64{complex(inf, 0), complex(0, inf), complex(-inf, 1), complex(nan, 0), complex(0, nan), complex(1, -inf)} {
		x, e := Complex(c)
		isCode(t, "Complex", e, api.ErrArg)
		isWave(t, "Complex", x, "0", "0")
	}
}

func TestNearWaves(t *testing.T) {
	x := Join(frac(t, "1/3"), frac(t, "-2/3"))
	if x.Near() != complex(1.0/3, -2.0/3) || x.Near64() != complex(float32(1.0/3), float32(-2.0/3)) {
		t.Errorf("Near: %v %v", x.Near(), x.Near64())
	}
	x = Join(twos(1, 128), twos(-1, -2000))
	if near := x.Near64(); !math.IsInf(float64(real(near)), 1) || imag(near) != 0 || math.Signbit(float64(imag(near))) {
		t.Errorf("Near64: %v", near)
	}
	if near := x.Near(); real(near) != 0x1p128 || imag(near) != 0 || math.Signbit(imag(near)) {
		t.Errorf("Near: %v", near)
	}
}

func randomWave(r *rand.Rand) Wave {
	return Join(randomFrac(r), randomFrac(r))
}

// P1.2

func TestFieldOfWaves(t *testing.T) {
	r := seeded()
	same := func(what string, x, y Wave) {
		t.Helper()
		if !x.Same(y) {
			t.Fatalf("%s: %s, %s is not %s, %s", what, x.re.Text(), x.im.Text(), y.re.Text(), y.im.Text())
		}
	}
	for range 500 {
		x, y, z := randomWave(r), randomWave(r), randomWave(r)
		same("Add commutes", x.Add(y), y.Add(x))
		same("Mul commutes", x.Mul(y), y.Mul(x))
		same("Add associates", x.Add(y).Add(z), x.Add(y.Add(z)))
		same("Mul associates", x.Mul(y).Mul(z), x.Mul(y.Mul(z)))
		same("Mul distributes", x.Mul(y.Add(z)), x.Mul(y).Add(x.Mul(z)))
		same("Sub undoes Add", x.Add(y).Sub(y), x)
		same("Norm by Conj", x.Mul(x.Conj()), Join(x.Norm(), Frac{}))
		if q, e := x.Mul(y).Div(y); e == api.OK {
			same("Div undoes Mul", q, x)
		} else if !y.Zero() {
			t.Fatalf("Div: error %d", e)
		}
		if !x.Mul(y).Norm().Same(x.Norm().Mul(y.Norm())) {
			t.Fatal("Norm of a product")
		}
	}
}
