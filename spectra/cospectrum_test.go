package spectra_test

import (
	"math"
	"slices"
	"testing"

	"fluxmast/api"
	"fluxmast/spectra"
)

// P6.1 and P6.4: cospectra.

func cospectrum(t testing.TB, x, y []int) []cyc {
	t.Helper()
	return right[[]cyc](t, "Cospectrum")(spectra.Cospectrum(x, y))
}

func ogive(t testing.TB, x, y []int) []cyc {
	t.Helper()
	return right[[]cyc](t, "Ogive")(spectra.Ogive(x, y))
}

func bandsOf(t testing.TB, x, y, edges []int) []cyc {
	t.Helper()
	return right[[]cyc](t, "Bands")(spectra.Bands(x, y, edges))
}

// slowCospectrum is the real part of what each frequency and its other one have.
func slowCospectrum(t testing.TB, x, y []int) []cyc {
	t.Helper()
	n := len(x)
	tx, ty := slowTransform(x), slowTransform(y)
	all := make([]cyc, n/2+1)
	for m := range n {
		f := min(m, n-m)
		all[f] = add(t, all[f], slowMul(tx[m], conj(t, ty[m])))
	}
	return all
}

func TestCospectrum(t *testing.T) {
	x := []int{1, 2, 3, 4}
	isCycs(t, "Cospectrum of the example", cospectrum(t, x, x), wholes(100, 16, 4))
	isCycs(t, "Bands of the example", bandsOf(t, x, x, []int{0, 1, 3}), wholes(100, 20))
	isCycs(t, "Ogive of the example", ogive(t, x, x), wholes(120, 20, 4))
	for _, c := range []struct {
		x, y []int
		want []cyc
	}{
		{[]int{1, 2}, []int{3, 5}, wholes(24, 2)},
		{[]int{1, 2}, []int{5, 3}, wholes(24, -2)},
		{[]int{1, 0, -1, 0}, []int{0, 1, 0, -1}, wholes(0, 0, 0)},
		{[]int{1, 0, -1, 0}, []int{-1, 0, 1, 0}, wholes(0, -8, 0)},
		{[]int{1, -1, 1, -1}, []int{2, -2, 2, -2}, wholes(0, 0, 32)},
		{[]int{1, 0, 0, 0, 0, 0, 0, 0}, []int{0, 1, 0, 0, 0, 0, 0, 0}, []cyc{whole(1), realCyc(0, 0, 1, 0), {}, realCyc(0, 0, -1, 0), whole(-1)}},
	} {
		isCycs(t, "Cospectrum", cospectrum(t, c.x, c.y), c.want)
	}
	first, second := make([]int, 16), make([]int, 16)
	first[0], second[1] = 1, 1
	isCycs(t, "Cospectrum of 16 samples", cospectrum(t, first, second), []cyc{
		whole(1), realCyc(0, 1, 0, 0), realCyc(0, 0, 1, 0), realCyc(0, 0, 0, 1), {}, realCyc(0, 0, 0, -1), realCyc(0, 0, -1, 0), realCyc(0, -1, 0, 0), whole(-1),
	})
}

func TestCospectrumIsReal(t *testing.T) {
	r := seeded()
	for _, n := range lengths() {
		for range 40 {
			x, y := randomBlock(r, n, 1<<20), randomBlock(r, n, 1<<20)
			c := cospectrum(t, x, y)
			isCycs(t, "Cospectrum", c, slowCospectrum(t, x, y))
			isCycs(t, "Cospectrum the other way round", cospectrum(t, y, x), c)
			for _, part := range c {
				isTrue(t, "it is real", isReal(t, part))
			}
			for _, part := range cospectrum(t, x, x) {
				isTrue(t, "a block with itself has no number below 0", sign(t, part) >= 0)
			}
		}
	}
}

func TestParseval(t *testing.T) {
	r := seeded()
	for _, n := range lengths() {
		for range 40 {
			x, y := randomBlock(r, n, 1<<20), randomBlock(r, n, 1<<20)
			products, sumX, sumY := 0, 0, 0
			for j := range x {
				products += x[j] * y[j]
				sumX += x[j]
				sumY += y[j]
			}
			all := whole(n * products)
			c := cospectrum(t, x, y)
			isCyc(t, "Cospectrum together", sumOf(t, c), all)
			isCyc(t, "Cospectrum without the frequency 0", sumOf(t, c[1:]), whole(n*products-sumX*sumY))
			edges := randomEdges(r.Intn, n/2+1)
			isCyc(t, "Bands together", sumOf(t, bandsOf(t, x, y, edges)), all)
			o := ogive(t, x, y)
			isInt(t, "how many numbers Ogive has", len(o), n/2+1)
			for f := range o {
				isCyc(t, "Ogive", o[f], sumOf(t, c[f:]))
			}
			isCyc(t, "Ogive at 0", o[0], all)
		}
	}
}

// randomEdges is edges from 0 to last, with at most 7 others.
func randomEdges(intn func(int) int, last int) []int {
	edges := []int{0, last}
	for range intn(8) {
		edges = append(edges, intn(last))
	}
	slices.Sort(edges)
	return slices.Compact(edges)
}

func TestBands(t *testing.T) {
	r := seeded()
	for _, n := range lengths() {
		x, y := randomBlock(r, n, 1<<20), randomBlock(r, n, 1<<20)
		c := cospectrum(t, x, y)
		for first := range n/2 + 1 {
			for end := first + 1; end <= n/2+1; end++ {
				isCycs(t, "Bands of one", bandsOf(t, x, y, []int{first, end}), []cyc{sumOf(t, c[first:end])})
				for more := end + 1; more <= n/2+1; more++ {
					isCycs(t, "Bands of two", bandsOf(t, x, y, []int{first, end, more}), []cyc{sumOf(t, c[first:end]), sumOf(t, c[end:more])})
				}
			}
		}
	}
	x := randomBlock(r, 16, 1<<20)
	c := cospectrum(t, x, x)
	isCycs(t, "Bands of each frequency but the last one", bandsOf(t, x, x, []int{0, 1, 2, 3, 4, 5, 6, 7, 8}), c[:8])
	isCycs(t, "Bands of each frequency but the first one", bandsOf(t, x, x, []int{1, 2, 3, 4, 5, 6, 7, 8, 9}), c[1:])
}

func TestCospectrumErrors(t *testing.T) {
	isErrorOfTwo(t, "Cospectrum", func(x, y []int) (bool, api.Errno) {
		got, e := spectra.Cospectrum(x, y)
		return len(got) == 0, e
	})
	isErrorOfTwo(t, "Ogive", func(x, y []int) (bool, api.Errno) {
		got, e := spectra.Ogive(x, y)
		return len(got) == 0, e
	})
	isErrorOfTwo(t, "Bands", func(x, y []int) (bool, api.Errno) {
		got, e := spectra.Bands(x, y, []int{0, 1})
		return len(got) == 0, e
	})
}

func TestEdgesErrors(t *testing.T) {
	is := func(what string, n int, edges []int, want api.Errno) {
		t.Helper()
		got, e := spectra.Bands(make([]int, n), make([]int, n), edges)
		isCode(t, "Bands with "+what, e, want)
		isTrue(t, "Bands has a zero value with "+what, want == api.OK || len(got) == 0)
	}
	for _, n := range lengths() {
		last := n/2 + 1
		is("no list", n, nil, api.ErrSize)
		is("no edge", n, []int{}, api.ErrSize)
		is("one edge", n, []int{0}, api.ErrSize)
		is("one edge that is none", n, []int{-1}, api.ErrSize)
		is("10 edges", n, []int{0, 1, 2, 3, 4, 5, 6, 7, 8, 9}, api.ErrSize)
		is("10 edges that are none", n, slices.Repeat([]int{-1}, 10), api.ErrSize)
		is("the first and the last edge", n, []int{0, last}, api.OK)
		is("the last frequency", n, []int{last - 1, last}, api.OK)
		is("an edge above the last one", n, []int{0, last + 1}, api.ErrArg)
		is("a first edge above the last one", n, []int{last + 1, last + 2}, api.ErrArg)
		is("an edge below 0", n, []int{-1, 1}, api.ErrArg)
		is("a second edge below 0", n, []int{1, -1}, api.ErrArg)
		is("the least edge", n, []int{math.MinInt, 1}, api.ErrArg)
		is("the greatest edge", n, []int{0, math.MaxInt}, api.ErrArg)
		is("equal edges", n, []int{1, 1}, api.ErrOrder)
		is("equal last edges", n, []int{last, last}, api.ErrOrder)
		is("edges that fall", n, []int{last, 0}, api.ErrOrder)
		is("equal edges, then one above the last one", n, []int{1, 1, last + 1}, api.ErrOrder)
		is("an edge above the last one, then equal ones", n, []int{0, last + 1, 1, 1}, api.ErrArg)
		is("a later edge that is equal", n, []int{0, 1, 2, 2}, api.ErrOrder)
	}
	is("9 edges", 16, []int{0, 1, 2, 3, 4, 5, 6, 7, 9}, api.OK)
	is("9 edges, the last one not above the one ahead", 16, []int{0, 1, 2, 3, 4, 5, 6, 8, 7}, api.ErrOrder)

	for _, c := range blockCases() {
		for _, edges := range [][]int{nil, {-1, 5}, {1, 1}} {
			_, e := spectra.Bands(c.l, make([]int, 4), edges)
			isCode(t, "Bands with bad edges and x of "+c.what, e, c.want)
			_, e = spectra.Bands(make([]int, 4), c.l, edges)
			isCode(t, "Bands with bad edges and y of "+c.what, e, c.want)
			_, e = spectra.Bands(make([]int, 4), make([]int, 2), edges)
			isCode(t, "Bands with bad edges and blocks of other lengths", e, api.ErrSize)
		}
	}
}

func TestCospectraKeepTheirArguments(t *testing.T) {
	x, sameX := behind(t, []int{1, 2, 3, 4}, 99, equal[int])
	y, sameY := behind(t, []int{5, 6, 7, 8}, 99, equal[int])
	edges, sameEdges := behind(t, []int{0, 1, 3}, 99, equal[int])
	for range 2 { // twice, as nothing is kept
		isCycs(t, "Cospectrum", cospectrum(t, x, y), wholes(260, 16, 4))
		isCycs(t, "Bands", bandsOf(t, x, y, edges), wholes(260, 20))
		isCycs(t, "Ogive", ogive(t, x, y), wholes(280, 20, 4))
	}
	sameX()
	sameY()
	sameEdges()
}
