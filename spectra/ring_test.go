package spectra_test

import (
	"math"
	"testing"

	"fluxmast/api"
	"fluxmast/spectra"
)

// P6.1 and P6.2: the ring.

func TestRoot(t *testing.T) {
	isCyc(t, "Root(-1)", spectra.Root(-1), cyc{0, 0, 0, 0, 0, 0, 0, -1})
	isCyc(t, "Root(4) times itself", mul(t, spectra.Root(4), spectra.Root(4)), whole(-1))
	for n := -50; n <= 50; n++ {
		isCyc(t, "Root", spectra.Root(n), slowRoot(n))
	}
	for n, want := range map[int]cyc{
		math.MaxInt:     {7: -1},
		math.MaxInt - 8: {7: 1},
		math.MinInt:     {1},
		math.MinInt + 1: {1: 1},
		math.MinInt + 9: {1: -1},
		1 << 40:         {1},
		1<<40 + 8:       {-1},
		-1<<40 - 3:      {5: -1},
	} {
		isCyc(t, "Root", spectra.Root(n), want)
	}
}

func TestAddAndSub(t *testing.T) {
	x, y := cyc{1, -2, 3, -4, 5, -6, 7, -8}, cyc{10, 20, 30, 40, 50, 60, 70, 80}
	isCyc(t, "Add", add(t, x, y), cyc{11, 18, 33, 36, 55, 54, 77, 72})
	isCyc(t, "Sub", sub(t, x, y), cyc{-9, -22, -27, -44, -45, -66, -63, -88})
	const most = 1 << 56
	for _, x := range asGreat(most) {
		isCyc(t, "Add of the greatest", add(t, x, x), slowMul(x, whole(2)))
		isCyc(t, "Sub of the greatest", sub(t, x, minus(x)), slowMul(x, whole(2)))
		isCyc(t, "Sub of the same", sub(t, x, x), cyc{})
	}
}

func TestMul(t *testing.T) {
	for i := range 8 {
		for j := range 8 {
			x, y := spectra.Root(i), spectra.Root(j)
			isCyc(t, "Mul of powers", mul(t, x, y), slowMul(x, y))
		}
	}
	x, y := cyc{1, 2, 3, 4, 5, 6, 7, 8}, cyc{7: 1}
	isCyc(t, "Mul", mul(t, x, y), cyc{-2, -3, -4, -5, -6, -7, -8, 1})
	const most = 1 << 28
	for _, x := range asGreat(most) {
		for _, y := range asGreat(most) {
			isCyc(t, "Mul of the greatest", mul(t, x, y), slowMul(x, y))
		}
	}
}

func TestConj(t *testing.T) {
	isCyc(t, "Conj", conj(t, cyc{1, 2, 3, 4, 5, 6, 7, 8}), cyc{1, -8, -7, -6, -5, -4, -3, -2})
	for n := -16; n <= 16; n++ {
		isCyc(t, "Conj of a power", conj(t, spectra.Root(n)), spectra.Root(-n))
	}
	for _, x := range asGreat(1 << 56) {
		isCyc(t, "Conj of Conj", conj(t, conj(t, x)), x)
	}
}

func TestIsReal(t *testing.T) {
	for _, c := range []struct {
		x    cyc
		want bool
	}{
		{cyc{}, true},
		{whole(1 << 56), true},
		{realCyc(1, 2, 3, 4), true},
		{realCyc(-1<<56, 1<<56, -1<<56, 1<<56), true},
		{cyc{4: 1}, false},
		{cyc{4: -1 << 56}, false},
		{cyc{1: 1}, false},
		{cyc{1: 1, 7: 1}, false},
		{cyc{2: 1, 6: 1}, false},
		{cyc{3: 1, 5: 1}, false},
		{cyc{1: 2, 7: -1}, false},
		{cyc{2: 2, 6: -1}, false},
		{cyc{3: 2, 5: -1}, false},
		{cyc{1: 1, 6: -1}, false},
		{cyc{0, 1, 2, 3, 1, -3, -2, -1}, false},
	} {
		if isReal(t, c.x) != c.want {
			t.Error("IsReal:", c.x, !c.want)
		}
	}
}

func TestRingErrors(t *testing.T) {
	good := realCyc(1, 2, 3, 4)
	for _, x := range tooGreat(1 << 56) {
		for _, pair := range [][2]cyc{{x, good}, {good, x}, {x, x}} {
			got, e := spectra.Add(pair[0], pair[1])
			isCode(t, "Add", e, api.ErrArg)
			isCyc(t, "Add with an error", got, cyc{})
			got, e = spectra.Sub(pair[0], pair[1])
			isCode(t, "Sub", e, api.ErrArg)
			isCyc(t, "Sub with an error", got, cyc{})
		}
		got, e := spectra.Conj(x)
		isCode(t, "Conj", e, api.ErrArg)
		isCyc(t, "Conj with an error", got, cyc{})
		is, e := spectra.IsReal(x)
		isCode(t, "IsReal", e, api.ErrArg)
		isTrue(t, "IsReal with an error is false", !is)
	}
	for _, x := range tooGreat(1 << 28) {
		for _, pair := range [][2]cyc{{x, good}, {good, x}, {x, x}, {x, {}}} {
			got, e := spectra.Mul(pair[0], pair[1])
			isCode(t, "Mul", e, api.ErrArg)
			isCyc(t, "Mul with an error", got, cyc{})
		}
	}
}

func TestRingIsThatOfComplexNumbers(t *testing.T) {
	r := seeded()
	const most = 1 << 20
	for range 500 {
		x, y := randomCyc(r, most), randomCyc(r, most)
		isTrue(t, "Add is the sum", areNear(nearly(add(t, x, y)), nearly(x)+nearly(y), most))
		isTrue(t, "Sub is the difference", areNear(nearly(sub(t, x, y)), nearly(x)-nearly(y), most))
		isTrue(t, "Mul is the product", areNear(nearly(mul(t, x, y)), nearly(x)*nearly(y), most*most))
		isTrue(t, "Conj is the conjugate", areNear(nearly(conj(t, x)), complex(real(nearly(x)), -imag(nearly(x))), most))
	}
}

func TestRingLaws(t *testing.T) {
	r := seeded()
	const most = 1 << 12 // products of two are small
	for range 500 {
		x, y, z := randomCyc(r, most), randomCyc(r, most), randomCyc(r, most)
		isCyc(t, "Add is commutative", add(t, x, y), add(t, y, x))
		isCyc(t, "Add is associative", add(t, add(t, x, y), z), add(t, x, add(t, y, z)))
		isCyc(t, "Sub undoes Add", sub(t, add(t, x, y), y), x)
		isCyc(t, "Mul is commutative", mul(t, x, y), mul(t, y, x))
		isCyc(t, "Mul is associative", mul(t, mul(t, x, y), z), mul(t, x, mul(t, y, z)))
		isCyc(t, "Mul is distributive", mul(t, x, add(t, y, z)), add(t, mul(t, x, y), mul(t, x, z)))
		isCyc(t, "Conj of a product", conj(t, mul(t, x, y)), mul(t, conj(t, x), conj(t, y)))
		isCyc(t, "Conj of a sum", conj(t, add(t, x, y)), add(t, conj(t, x), conj(t, y)))
		m, n := r.Intn(4001)-2000, r.Intn(4001)-2000
		isCyc(t, "Root of a sum", spectra.Root(m+n), mul(t, spectra.Root(m), spectra.Root(n)))
		isCyc(t, "Mul", mul(t, x, y), slowMul(x, y))
		isTrue(t, "IsReal just of its own Conj", isReal(t, x) == (conj(t, x) == x))
		isTrue(t, "x plus its Conj is real", isReal(t, add(t, x, conj(t, x))))
	}
}

func TestNumberTimesItsConj(t *testing.T) {
	r := seeded()
	for range 500 {
		x := randomCyc(r, 1<<25)
		norm := mul(t, x, conj(t, x))
		isTrue(t, "it is real", isReal(t, norm))
		want := 1
		if x == (cyc{}) {
			want = 0
		}
		isInt(t, "its Sign", sign(t, norm), want)
	}
	isInt(t, "Sign of 0 times its Conj", sign(t, mul(t, cyc{}, conj(t, cyc{}))), 0)
}
