package spectra_test

import (
	"math"
	"slices"
	"testing"

	"fluxmast/api"
	"fluxmast/spectra"
)

// P6.1, P6.3 and P6.5: transforms and convolutions.

func transform(t testing.TB, l []int) []cyc {
	t.Helper()
	return right[[]cyc](t, "Transform")(spectra.Transform(l))
}

// wholes is whole numbers of the ring.
func wholes(l ...int) []cyc {
	var all []cyc
	for _, n := range l {
		all = append(all, whole(n))
	}
	return all
}

// slowTransform adds all samples, each at its exponent.
func slowTransform(l []int) []cyc {
	n := len(l)
	all := make([]cyc, n)
	for m := range all {
		for j, sample := range l {
			exponent := ((-(16/n)*j*m)%16 + 16) % 16
			if exponent < 8 {
				all[m][exponent] += sample
			} else {
				all[m][exponent-8] -= sample
			}
		}
	}
	return all
}

func TestTransform(t *testing.T) {
	i := cyc{4: 1}
	for _, c := range []struct {
		l    []int
		want []cyc
	}{
		{[]int{1, 2}, wholes(3, -1)},
		{[]int{1, 0, 0, 0}, wholes(1, 1, 1, 1)},
		{[]int{0, 1, 0, 0}, []cyc{whole(1), minus(i), whole(-1), i}},
		{[]int{1, 2, 3, 4}, []cyc{whole(10), {-2, 0, 0, 0, 2}, whole(-2), {-2, 0, 0, 0, -2}}},
		{[]int{0, 0, 0, 0, 0, 0, 0, 0}, make([]cyc, 8)},
		{[]int{5, 5, 5, 5, 5, 5, 5, 5}, wholes(40, 0, 0, 0, 0, 0, 0, 0)},
		{[]int{1, -1, 1, -1, 1, -1, 1, -1}, wholes(0, 0, 0, 0, 8, 0, 0, 0)},
		{[]int{0, 1, 0, 0, 0, 0, 0, 0}, []cyc{whole(1), {6: -1}, minus(i), {2: -1}, whole(-1), {6: 1}, i, {2: 1}}},
	} {
		isCycs(t, "Transform", transform(t, c.l), c.want)
	}
	second := make([]int, 16)
	second[1] = 1 << 20
	for m, x := range transform(t, second) {
		isCyc(t, "Transform of the second one of 16", x, slowMul(slowRoot(-m), whole(1<<20)))
	}
}

func TestTransformModel(t *testing.T) {
	r := seeded()
	for _, n := range lengths() {
		for range 60 {
			l := randomBlock(r, n, 1<<20)
			got := transform(t, l)
			isCycs(t, "Transform", got, slowTransform(l))
			for m := range got {
				var want complex128
				for j, sample := range l {
					sin, cos := math.Sincos(-2 * math.Pi * float64(j*m) / float64(n))
					want += complex(float64(sample)*cos, float64(sample)*sin)
				}
				isTrue(t, "Transform is that of complex numbers", areNear(nearly(got[m]), want, 1<<24))
			}
		}
	}
}

func TestTransformLaws(t *testing.T) {
	r := seeded()
	for _, n := range lengths() {
		for range 60 {
			x, y := randomBlock(r, n, 1<<19), randomBlock(r, n, 1<<19)
			both, later := make([]int, n), make([]int, n)
			s := r.Intn(3*n) - n
			for j := range x {
				both[j] = x[j] + y[j]
				later[((j+s)%n+n)%n] = x[j]
			}
			tx, ty, tb, tl := transform(t, x), transform(t, y), transform(t, both), transform(t, later)
			isInt(t, "how many numbers Transform has", len(tx), n)
			for m := range tx {
				isCyc(t, "Transform of a sum", tb[m], add(t, tx[m], ty[m]))
				isCyc(t, "Transform of what comes later", tl[m], mul(t, tx[m], spectra.Root(-16/n*s*m)))
				if m > 0 {
					isCyc(t, "the frequency n - m", tx[n-m], conj(t, tx[m]))
				}
			}
			isInts(t, "Back of Transform", right[[]int](t, "Back")(spectra.Back(tx)), x)
		}
	}
}

func TestTransformErrors(t *testing.T) {
	for _, c := range blockCases() {
		got, e := spectra.Transform(c.l)
		isCode(t, "Transform of "+c.what, e, c.want)
		isInt(t, "Transform of "+c.what, len(got), 0)
	}
	for _, n := range lengths() {
		for _, sample := range []int{1 << 20, -1 << 20} {
			l := slices.Repeat([]int{sample}, n)
			isCycs(t, "Transform of the greatest samples", transform(t, l), slowTransform(l))
			isInts(t, "Back of it", right[[]int](t, "Back")(spectra.Back(transform(t, l))), l)
		}
	}
}

func TestBack(t *testing.T) {
	i, most := cyc{4: 1}, 1<<28
	for _, c := range []struct {
		l    []cyc
		want []int
	}{
		{wholes(3, -1), []int{1, 2}},
		{wholes(0, 2), []int{1, -1}},
		{wholes(-3, -1), []int{-2, -1}},
		{wholes(most, most), []int{most, 0}},
		{wholes(-most, most), []int{0, -most}},
		{wholes(most, most, most, most), []int{most, 0, 0, 0}},
		{[]cyc{whole(1), minus(i), whole(-1), i}, []int{0, 1, 0, 0}},
		{[]cyc{whole(1), i, whole(-1), minus(i)}, []int{0, 0, 0, 1}},
		{slices.Repeat(wholes(-most), 16), append([]int{-most}, make([]int, 15)...)},
	} {
		isInts(t, "Back", right[[]int](t, "Back")(spectra.Back(c.l)), c.want)
	}
}

func TestBackErrors(t *testing.T) {
	i, great := cyc{4: 1}, whole(1<<28+1)
	for _, c := range append(transformsCases(), []transformsCase{
		{"a half", wholes(1, 0), api.ErrNone},
		{"a half below 0", wholes(-1, 0), api.ErrNone},
		{"halves, some of them", wholes(2, 1, 0, 1), api.ErrNone},
		{"quarters", wholes(1, 1, 1, 0), api.ErrNone},
		{"sixteenths", append(wholes(8), make([]cyc, 15)...), api.ErrNone},
		{"numbers that are not real", []cyc{slowMul(i, whole(2)), {}}, api.ErrNone},
		{"numbers that are not real, just later ones", []cyc{{}, i, {}, i}, api.ErrNone},
		{"numbers that are not rational", []cyc{realCyc(0, 0, 2, 0), {}}, api.ErrNone},
		{"numbers without conjugates", []cyc{{}, {1: 16}, {}, {}, {}, {}, {}, {}}, api.ErrNone},
		{"a half, and a number that is not small", []cyc{whole(1), great}, api.ErrArg},
	}...) {
		got, e := spectra.Back(c.l)
		isCode(t, "Back of "+c.what, e, c.want)
		isInt(t, "Back of "+c.what, len(got), 0)
	}
}

func TestBackModel(t *testing.T) {
	r := seeded()
	var codes [2]int
	for _, n := range lengths() {
		for range 100 {
			l := transform(t, randomBlock(r, n, 1<<20))
			for range r.Intn(3) { // what is added has a block just at times
				l[r.Intn(n)][r.Intn(8)] += n * r.Intn(2)
			}
			got, e := spectra.Back(l)
			want, isBlock := slowBack(l)
			if isBlock {
				isCode(t, "Back", e, api.OK)
				isInts(t, "Back", got, want)
				isCycs(t, "Transform of Back", slowTransform(got), l)
				codes[0]++
			} else {
				isCode(t, "Back", e, api.ErrNone)
				isInt(t, "Back with an error", len(got), 0)
				codes[1]++
			}
		}
	}
	isTrue(t, "many lists have each code", codes[0] > 50 && codes[1] > 50)
}

// slowBack is the integers whose Transform is l, if they are integers.
func slowBack(l []cyc) ([]int, bool) {
	n := len(l)
	samples := make([]int, n)
	for j := range samples {
		var sum cyc
		for m, x := range l {
			turned := slowMul(x, slowRoot(16/n*j*m%16))
			for i := range sum {
				sum[i] += turned[i]
			}
		}
		if slices.ContainsFunc(sum[1:], func(a int) bool { return a != 0 }) || sum[0]%n != 0 {
			return nil, false
		}
		samples[j] = sum[0] / n
	}
	return samples, true
}

func TestCross(t *testing.T) {
	i := cyc{4: 1}
	for _, c := range []struct{ a, b, want []cyc }{
		{wholes(2, 3), wholes(5, -7), wholes(10, -21)},
		{[]cyc{i, i}, []cyc{i, whole(1)}, []cyc{whole(1), i}},
		{[]cyc{whole(1), {1: 1}}, []cyc{i, {3: 1}}, []cyc{minus(i), spectra.Root(-2)}},
	} {
		got, e := spectra.Cross(c.a, c.b)
		isCode(t, "Cross", e, api.OK)
		isCycs(t, "Cross", got, c.want)
	}
	r := seeded()
	for _, n := range lengths() {
		a, b, want := make([]cyc, n), make([]cyc, n), make([]cyc, n)
		for m := range a {
			a[m], b[m] = randomCyc(r, 1<<28), randomCyc(r, 1<<28)
			want[m] = slowMul(a[m], conj(t, b[m]))
		}
		got, e := spectra.Cross(a, b)
		isCode(t, "Cross", e, api.OK)
		isCycs(t, "Cross", got, want)
	}
	great := asGreat(1 << 28)[:2]
	got, e := spectra.Cross(great, great)
	isCode(t, "Cross of the greatest", e, api.OK)
	isCycs(t, "Cross of the greatest", got, []cyc{slowMul(great[0], conj(t, great[0])), slowMul(great[1], conj(t, great[1]))})
}

func TestCrossErrors(t *testing.T) {
	is := func(what string, a, b []cyc, want api.Errno) {
		t.Helper()
		got, e := spectra.Cross(a, b)
		isCode(t, "Cross with "+what, e, want)
		isTrue(t, "Cross has a zero value with "+what, want == api.OK || len(got) == 0)
	}
	bad := []transformsCase{{"3 numbers", make([]cyc, 3), api.ErrSize}, {"one not small", []cyc{{}, whole(1<<28 + 1)}, api.ErrArg}}
	for _, c := range transformsCases() {
		for _, n := range lengths() {
			is("a of "+c.what, c.l, make([]cyc, n), c.want)
			is("b of "+c.what, make([]cyc, n), c.l, c.want)
		}
		for _, d := range bad {
			is("a of "+c.what+" and b of "+d.what, c.l, d.l, c.want)
			is("a of "+d.what+" and b of "+c.what, d.l, c.l, d.want)
		}
	}
	for _, m := range lengths() {
		for _, n := range lengths() {
			want := api.OK
			if m != n {
				want = api.ErrSize
			}
			is("lists of other lengths", make([]cyc, m), make([]cyc, n), want)
		}
	}
}

func TestConvolve(t *testing.T) {
	for _, c := range []struct{ a, b, want []int }{
		{[]int{1, 2}, []int{3, 4}, []int{11, 10}},
		{[]int{1, 0, 0, 0}, []int{5, 6, 7, 8}, []int{5, 6, 7, 8}},
		{[]int{0, 1, 0, 0}, []int{5, 6, 7, 8}, []int{8, 5, 6, 7}},
		{[]int{0, 0, 0, -1}, []int{5, 6, 7, 8}, []int{-6, -7, -8, -5}},
		{slices.Repeat([]int{1 << 20}, 16), slices.Repeat([]int{1 << 20}, 16), slices.Repeat([]int{1 << 44}, 16)},
		{slices.Repeat([]int{1 << 20}, 2), slices.Repeat([]int{-1 << 20}, 2), slices.Repeat([]int{-1 << 41}, 2)},
	} {
		got, e := spectra.Convolve(c.a, c.b)
		isCode(t, "Convolve", e, api.OK)
		isInts(t, "Convolve", got, c.want)
	}
}

func TestConvolveLaws(t *testing.T) {
	r := seeded()
	for _, n := range lengths() {
		for range 60 {
			// Convolutions of small samples are blocks.
			a, b := randomBlock(r, n, 1<<8), randomBlock(r, n, 1<<8)
			got := right[[]int](t, "Convolve")(spectra.Convolve(a, b))
			want := make([]int, n)
			for i, x := range a {
				for j, y := range b {
					want[(i+j)%n] += x * y
				}
			}
			isInts(t, "Convolve", got, want)
			isInts(t, "Convolve the other way round", right[[]int](t, "Convolve")(spectra.Convolve(b, a)), want)
			ta, tb, tc := transform(t, a), transform(t, b), transform(t, got)
			for m := range tc {
				isCyc(t, "Transform of Convolve", tc[m], mul(t, ta[m], tb[m]))
			}
		}
	}
}

func TestConvolveErrors(t *testing.T) {
	isErrorOfTwo(t, "Convolve", func(a, b []int) (bool, api.Errno) {
		got, e := spectra.Convolve(a, b)
		return len(got) == 0, e
	})
}

func TestTransformsKeepTheirArguments(t *testing.T) {
	a, sameA := behind(t, []int{1, 2, 3, 4}, 99, equal[int])
	b, sameB := behind(t, []int{5, 6, 7, 8}, 99, equal[int])
	c, sameC := behind(t, transform(t, a), whole(99), equal[cyc])
	back := right[[]int](t, "Back")(spectra.Back(c))
	crossed := right[[]cyc](t, "Cross")(spectra.Cross(c, c))
	convolved := right[[]int](t, "Convolve")(spectra.Convolve(a, b))
	again := right[[]int](t, "Convolve")(spectra.Convolve(a, a))
	// Results have memory of their own.
	for i := range a {
		back[i], crossed[i], convolved[i], again[i] = 77, whole(77), 77, 77
	}
	sameA()
	sameB()
	sameC()
}
