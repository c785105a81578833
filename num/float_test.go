package num

import (
	"math"
	"math/big"
	"math/rand"
	"testing"

	"fluxmast/api"
)

// twos is n 2^e.
func twos(n int64, e int) Frac {
	if e < 0 {
		return binary(n < 0, size(n), -e)
	}
	return build(n < 0, size(n).left(e), nil)
}

// P1.1: Float, Near and Near32.

func TestFloat(t *testing.T) {
	for _, f := range []float64{
		0, math.Copysign(0, -1), 1, -1, 0.1, -0.375, math.MaxFloat64, -math.MaxFloat64, math.SmallestNonzeroFloat64, -math.SmallestNonzeroFloat64,
		0x1p-1022, 0x1.fffffffffffffp-1023, 0x1p1023, 0x1p52, 0x1p53, 0x1.8p53, float64(float32(0.1)), math.SmallestNonzeroFloat32, math.MaxFloat32,
	} {
		x, e := Float(f)
		isCode(t, "Float", e, api.OK)
		isFrac(t, "Float", x, new(big.Rat).SetFloat64(f))
	}
	for _, f := range []float64{math.Inf(1), math.Inf(-1), math.NaN(), math.Copysign(math.NaN(), -1), math.Float64frombits(0x7ff0000000000001)} {
		x, e := Float(f)
		isCode(t, "Float", e, api.ErrArg)
		isText(t, "Float", x.Text(), "0")
	}
}

func isNear(t *testing.T, x Frac) {
	t.Helper()
	want, _ := bigRat(x).Float64()
	if got := x.Near(); math.Float64bits(got) != math.Float64bits(want) && (got != 0 || want != 0 || math.Signbit(got)) {
		t.Fatalf("Near of %s: %v, want %v", x.Text(), got, want)
	}
	want32, _ := bigRat(x).Float32()
	if got := x.Near32(); math.Float32bits(got) != math.Float32bits(want32) && (got != 0 || want32 != 0 || math.Signbit(float64(got))) {
		t.Fatalf("Near32 of %s: %v, want %v", x.Text(), got, want32)
	}
}

func TestNear(t *testing.T) {
	r := seeded()
	for range 5000 {
		isNear(t, randomFrac(r))
		isNear(t, twos(r.Int63()-r.Int63(), r.Intn(2400)-1250))
		isNear(t, twos(r.Int63()-r.Int63(), r.Intn(400)-250))
		// close to the middle between two floats, for both sizes
		for _, f := range []float64{randomFloat(r), float64(float32(randomFloat(r) * 0x1p-900))} {
			if math.IsInf(f, 0) || f != f {
				continue
			}
			x, _ := Float(f)
			y, _ := Float(math.Nextafter(f, 1))
			z, _ := Float(float64(math.Nextafter32(float32(f), 1)))
			for _, pair := range []Frac{x.Add(y), x.Add(z)} {
				middle := pair.Mul(twos(1, -1))
				isNear(t, middle)
				isNear(t, middle.Add(twos(1, -1300)))
				isNear(t, middle.Sub(twos(1, -1300)))
			}
		}
	}
}

func randomFloat(r *rand.Rand) float64 {
	return math.Float64frombits(r.Uint64())
}

func TestNearLimits(t *testing.T) {
	inf := math.Inf(1)
	tiny, tiny32 := math.SmallestNonzeroFloat64, float32(math.SmallestNonzeroFloat32)
	for _, c := range []struct {
		x    Frac
		want float64
	}{
		{twos(1, 1024).Sub(twos(1, 970)), inf}, {twos(1, 1024).Sub(twos(1, 970)).Sub(twos(1, -1)), math.MaxFloat64}, {twos(1, 1024), inf}, {twos(1, 100000), inf},
		{twos(1, -1074), tiny}, {twos(1, -1075), 0}, {twos(3, -1076), tiny}, {twos(3, -1075), 2 * tiny}, {twos(5, -1075), 2 * tiny}, {twos(1, -100000), 0},
		{twos(1, -1075).Add(twos(1, -2000)), tiny}, {twos(1, -1022).Sub(twos(1, -1075)), 0x1p-1022}, {twos(1<<53+1, 0), 1 << 53}, {twos(1<<53+3, 0), 1<<53 + 4},
	} {
		if got := c.x.Near(); got != c.want || math.Signbit(got) {
			t.Errorf("Near: %v, want %v", got, c.want)
		}
		if got := c.x.Neg().Near(); got != -c.want || math.Signbit(got) != (c.want != 0) {
			t.Errorf("Near: %v, want %v", got, -c.want)
		}
	}
	for _, c := range []struct {
		x    Frac
		want float32
	}{
		{twos(1, 128).Sub(twos(1, 103)), float32(inf)}, {twos(1, 128).Sub(twos(1, 103)).Sub(twos(1, -9)), math.MaxFloat32}, {twos(1, 5000), float32(inf)},
		{twos(1, -149), tiny32}, {twos(1, -150), 0}, {twos(3, -150), 2 * tiny32}, {twos(1, -150).Add(twos(1, -900)), tiny32}, {twos(1, -5000), 0},
		{twos(1, -126).Sub(twos(1, -150)), 0x1p-126}, {twos(1<<24+1, -24), 1},
		// as a float64 this would be the middle between two float32s first
		{twos(1<<24+1, -24).Add(twos(1, -80)), 1 + 0x1p-23},
	} {
		if got := c.x.Near32(); got != c.want || math.Signbit(float64(got)) {
			t.Errorf("Near32: %v, want %v", got, c.want)
		}
		if got := c.x.Neg().Near32(); got != -c.want || math.Signbit(float64(got)) != (c.want != 0) {
			t.Errorf("Near32: %v, want %v", got, -c.want)
		}
	}
}

// P1.4: Float of Near of a float is the float's value.

func TestFloatOfNear(t *testing.T) {
	r := seeded()
	for range 20000 {
		f := randomFloat(r)
		x, e := Float(f)
		if e != api.OK {
			continue
		}
		if y, e := Float(x.Near()); e != api.OK || !y.Same(x) || x.Near() != f {
			t.Fatalf("Near of %v: %v", f, x.Near())
		}
		g := math.Float32frombits(r.Uint32())
		if x, e = Float(float64(g)); e == api.OK && (x.Near32() != g || x.Near() != float64(g)) {
			t.Fatalf("Near32 of %v: %v", g, x.Near32())
		}
	}
}
