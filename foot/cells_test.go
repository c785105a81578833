package foot_test

import (
	"math"
	"math/rand"
	"slices"
	"testing"

	"fluxmast/api"
	"fluxmast/foot"
)

// P7.1 and P7.3 to P7.5: cells.

func placed(t testing.TB, m [][]int, tower api.Point, quarter int) []cell {
	t.Helper()
	return right[[]cell](t, "Placed")(foot.Placed(m, tower, quarter))
}

func turned(t testing.TB, l []cell, about api.Point, quarter int) []cell {
	t.Helper()
	return right[[]cell](t, "Turned")(foot.Turned(l, about, quarter))
}

func together(t testing.TB, a, b []cell) []cell {
	t.Helper()
	return right[[]cell](t, "Together")(foot.Together(a, b))
}

func total(t testing.TB, l []cell) int {
	t.Helper()
	return right[int](t, "Total")(foot.Total(l))
}

func least(t testing.TB, l []cell, part, of int) []int {
	t.Helper()
	return right[[]int](t, "Least")(foot.Least(l, part, of))
}

func sumOfWeights(l []cell) int {
	sum := 0
	for _, c := range l {
		sum += c.Weight
	}
	return sum
}

// randomMap is a map with a few rows and columns, and some weights of 0.
func randomMap(r *rand.Rand, rows, wide int) [][]int {
	m := make([][]int, rows)
	for i := range m {
		for range 2*wide + 1 {
			weight := r.Intn(1<<20 + 1)
			if r.Intn(3) == 0 {
				weight = r.Intn(2)
			}
			m[i] = append(m[i], weight)
		}
	}
	return m
}

// slowPlaced turns each square of a map about the tower.
func slowPlaced(m [][]int, tower api.Point, quarter int) []cell {
	var l []cell
	for i, row := range m {
		for j, weight := range row {
			l = append(l, turnedCell(cell{X: tower.X - len(row)/2 + j, Y: tower.Y + i, Weight: weight}, tower, quarter))
		}
	}
	return slowOrder(l)
}

func slowTurned(l []cell, about api.Point, quarter int) []cell {
	var all []cell
	for _, c := range l {
		all = append(all, turnedCell(c, about, quarter))
	}
	return slowOrder(all)
}

func TestPlaced(t *testing.T) {
	for _, c := range []struct {
		m       [][]int
		tower   api.Point
		quarter int
		want    []cell
	}{
		{[][]int{{2, 5, 3}}, point(7, 4), 0, []cell{{6, 4, 2}, {7, 4, 5}, {8, 4, 3}}},
		{[][]int{{2, 5, 3}}, point(7, 4), 1, []cell{{6, 3, 2}, {6, 4, 5}, {6, 5, 3}}},
		{[][]int{{2, 5, 3}}, point(7, 4), 2, []cell{{5, 3, 3}, {6, 3, 5}, {7, 3, 2}}},
		{[][]int{{2, 5, 3}}, point(7, 4), 3, []cell{{7, 2, 3}, {7, 3, 5}, {7, 4, 2}}},
		{[][]int{{9}, {8}}, point(0, 0), 0, []cell{{0, 0, 9}, {0, 1, 8}}},
		{[][]int{{9}, {8}}, point(0, 0), 1, []cell{{-2, 0, 8}, {-1, 0, 9}}},
		{[][]int{{9}, {8}}, point(0, 0), 2, []cell{{-1, -2, 8}, {-1, -1, 9}}},
		{[][]int{{9}, {8}}, point(0, 0), 3, []cell{{0, -1, 9}, {1, -1, 8}}},
		{[][]int{{0, 0, 3}, {1, 0, 0}}, point(-2, -3), 0, []cell{{-1, -3, 3}, {-3, -2, 1}}},
		{[][]int{{0}}, point(1, 1), 3, nil},
	} {
		isList(t, "Placed", placed(t, c.m, c.tower, c.quarter), c.want)
	}
}

func TestPlacedModel(t *testing.T) {
	r := seeded()
	for wide := range 9 {
		for _, rows := range []int{1, 2, 5, 31, 32} {
			m := randomMap(r, rows, wide)
			for _, tower := range []api.Point{{}, point(1<<19, -1<<19), point(-1<<19, 1<<19), point(r.Intn(100)-50, r.Intn(100)-50)} {
				for quarter := range 4 {
					isList(t, "Placed", placed(t, m, tower, quarter), slowPlaced(m, tower, quarter))
				}
			}
		}
	}
	full := make([][]int, 32)
	for i := range full {
		full[i] = slices.Repeat([]int{1 << 20}, 17)
	}
	isInt(t, "how many cells the greatest map has", len(placed(t, full, point(0, 0), 2)), 544)
}

func TestPlacedOfMap(t *testing.T) {
	for _, p := range plans() {
		m, left := mapOf(t, p)
		l := placed(t, m, point(12, -34), 3)
		isInt(t, "Placed with what is left", total(t, l)+left, p.Whole)
	}
}

// mapCase is a map with its error.
type mapCase struct {
	what string
	m    [][]int
	want api.Errno
}

func mapCases() []mapCase {
	cases := []mapCase{
		{"one row of one", [][]int{{1 << 20}}, api.OK},
		{"the most rows", slices.Repeat([][]int{make([]int, 17)}, 32), api.OK},
		{"no list", nil, api.ErrSize},
		{"no row", [][]int{}, api.ErrSize},
		{"33 rows", slices.Repeat([][]int{{1}}, 33), api.ErrSize},
		{"33 rows that are none", slices.Repeat([][]int{{-1}}, 33), api.ErrSize},
		{"a row that is nil", [][]int{nil}, api.ErrSize},
		{"rows that are nil", [][]int{nil, nil}, api.ErrSize},
		{"a row without elements", [][]int{{}}, api.ErrSize},
		{"a row of two", [][]int{{1, 2}}, api.ErrSize},
		{"a row of 16", [][]int{make([]int, 16)}, api.ErrSize},
		{"a row of 18", [][]int{make([]int, 18)}, api.ErrSize},
		{"a row of 19", [][]int{make([]int, 19)}, api.ErrSize},
		{"a second row that is longer", [][]int{{1}, {1, 2, 3}}, api.ErrSize},
		{"a second row that is shorter", [][]int{{1, 2, 3}, {1}}, api.ErrSize},
		{"a second row that is nil", [][]int{{1}, nil}, api.ErrSize},
		{"a last row of two", [][]int{{1}, {1}, {1, 2}}, api.ErrSize},
		{"a weight below 0, and a row that is longer", [][]int{{-1}, {1, 2, 3}}, api.ErrSize},
	}
	for _, n := range []int{-1, 1<<20 + 1, math.MaxInt, math.MinInt} {
		cases = append(cases,
			mapCase{"a first weight that is none", [][]int{{n, 1, 1}, {1, 1, 1}}, api.ErrArg},
			mapCase{"a last weight that is none", [][]int{{1, 1, 1}, {1, 1, n}}, api.ErrArg})
	}
	return cases
}

// farPlaces is coordinates of which one is just beyond most, or far beyond.
func farPlaces(most int) []api.Point {
	var l []api.Point
	for _, n := range []int{most + 1, -most - 1, math.MaxInt, math.MinInt, math.MinInt + 1} {
		l = append(l, point(n, 0), point(0, n), point(n, n))
	}
	return l
}

func TestPlacedErrors(t *testing.T) {
	is := func(what string, m [][]int, tower api.Point, quarter int, want api.Errno) {
		t.Helper()
		l, e := foot.Placed(m, tower, quarter)
		isCode(t, "Placed with "+what, e, want)
		isTrue(t, "Placed has a zero value with "+what, e == api.OK || len(l) == 0)
	}
	for _, c := range mapCases() {
		argument := c.want
		if argument == api.OK {
			argument = api.ErrArg
		}
		is(c.what, c.m, point(1, 2), 3, c.want)
		for _, tower := range farPlaces(1 << 19) {
			is(c.what+" and a tower that is far", c.m, tower, 0, argument)
		}
		for _, quarter := range []int{-1, 4, 5, math.MaxInt, math.MinInt} {
			is(c.what+" and a quarter that is none", c.m, point(1, 2), quarter, argument)
		}
	}
}

func TestTurned(t *testing.T) {
	for _, c := range []struct {
		l       []cell
		about   api.Point
		quarter int
		want    []cell
	}{
		{[]cell{{1, 0, 4}}, point(0, 0), 0, []cell{{1, 0, 4}}},
		{[]cell{{1, 0, 4}}, point(0, 0), 1, []cell{{-1, 1, 4}}},
		{[]cell{{1, 0, 4}}, point(0, 0), 2, []cell{{-2, -1, 4}}},
		{[]cell{{1, 0, 4}}, point(0, 0), 3, []cell{{0, -2, 4}}},
		{[]cell{{1, 0, 4}, {0, 0, 0}, {1, 0, 1}}, point(0, 0), 2, []cell{{-2, -1, 5}}},
		{[]cell{{3, 9, 1}, {2, 9, 2}, {2, 8, 3}, {2, 9, 4}}, point(5, 5), 0, []cell{{2, 8, 3}, {2, 9, 6}, {3, 9, 1}}},
		{nil, point(5, 5), 1, nil},
		{[]cell{{1, 1, 0}}, point(5, 5), 1, nil},
		{[]cell{{1, 1, 1 << 19}, {1, 1, 1 << 19}}, point(1, 1), 0, []cell{{1, 1, 1 << 20}}},
		{[]cell{{1 << 20, -1 << 20, 1}}, point(0, 0), 0, []cell{{1 << 20, -1 << 20, 1}}},
		{[]cell{{-1 << 20, 1<<20 - 1, 1}}, point(0, 0), 1, []cell{{-1 << 20, -1 << 20, 1}}},
		{[]cell{{1<<20 - 1, -1 << 20, 1}}, point(0, 0), 2, []cell{{-1 << 20, 1<<20 - 1, 1}}},
		{[]cell{{1 << 20, 1 << 20, 0}, {2, 3, 1}}, point(-4, 1), 2, []cell{{-11, -2, 1}}}, // a cell without weight is not beyond
	} {
		isList(t, "Turned", turned(t, c.l, c.about, c.quarter), c.want)
	}
}

func TestTurnedModel(t *testing.T) {
	r := seeded()
	for range 400 {
		l := randomCells(r, r.Intn(30), 4, 1<<15)
		about := point(r.Intn(21)-10, r.Intn(21)-10)
		for quarter := range 4 {
			isList(t, "Turned", turned(t, l, about, quarter), slowTurned(l, about, quarter))
		}
	}
	all := make([]cell, 600)
	for i := range all {
		all[i] = cell{X: i % 40, Y: -i, Weight: 1 + i}
	}
	isList(t, "Turned of 600 cells", turned(t, all, point(3, 4), 3), slowTurned(all, point(3, 4), 3))
}

func TestTurnedErrors(t *testing.T) {
	is := func(what string, l []cell, about api.Point, quarter int, want api.Errno) {
		t.Helper()
		got, e := foot.Turned(l, about, quarter)
		isCode(t, "Turned with "+what, e, want)
		isTrue(t, "Turned has a zero value with "+what, e == api.OK || len(got) == 0)
	}
	for _, c := range cellsCases() {
		argument := c.want
		if argument == api.OK {
			argument = api.ErrArg
		}
		is(c.what, c.l, point(0, 0), 0, c.want)
		for _, about := range farPlaces(1 << 20) {
			is(c.what+" and a point that is far", c.l, about, 0, argument)
		}
		for _, quarter := range []int{-1, 4, 5, math.MaxInt, math.MinInt} {
			is(c.what+" and a quarter that is none", c.l, point(1, 2), quarter, argument)
		}
	}
	const most = 1 << 20
	is("an x hardly beyond", []cell{{0, most, 1}}, point(0, 0), 1, api.ErrOutside)
	is("an x just not beyond", []cell{{0, most - 1, 1}}, point(0, 0), 1, api.OK)
	is("an x hardly beyond by half a turn", []cell{{most, 0, 1}}, point(0, 0), 2, api.ErrOutside)
	is("a y hardly beyond by half a turn", []cell{{0, most, 1}}, point(0, 0), 2, api.ErrOutside)
	is("a y hardly beyond", []cell{{most, 0, 1}}, point(0, 0), 3, api.ErrOutside)
	is("a y just not beyond", []cell{{most - 1, 0, 1}}, point(0, 0), 3, api.OK)
	is("an x hardly above", []cell{{-most, 0, 1}}, point(0, 0), 2, api.OK)
	is("an x hardly above about another point", []cell{{-most + 1, 0, 1}}, point(1, 0), 2, api.OK)
	is("an x above", []cell{{-most, 0, 1}}, point(1, 0), 2, api.ErrOutside)
	is("a y above", []cell{{0, -most, 1}}, point(0, 1), 2, api.ErrOutside)
	is("all far away", []cell{{-most, -most, 1}}, point(most, most), 2, api.ErrOutside)
	is("a cell without weight beyond", []cell{{most, most, 0}}, point(0, 0), 2, api.OK)
	is("a last cell beyond", []cell{{1, 1, 1}, {most, 0, 1}}, point(0, 0), 2, api.ErrOutside)
	is("a sum too great", []cell{{3, 4, most}, {0, 0, 1}, {3, 4, 1}}, point(0, 0), 1, api.ErrFull)
	is("a sum too great, not turned", []cell{{3, 4, 1}, {0, 0, 1}, {3, 4, most}}, point(0, 0), 0, api.ErrFull)
	is("a sum too great, and a cell beyond", []cell{{3, 4, most}, {3, 4, 1}, {most, 0, 1}}, point(0, 0), 2, api.ErrOutside)
	is("a sum too great of 600 cells", slices.Repeat([]cell{{5, 5, most}}, 600), point(0, 0), 2, api.ErrFull)
	is("a sum too great, of cells beyond", slices.Repeat([]cell{{most, 5, most}}, 3), point(0, 0), 2, api.ErrOutside)
}

func TestQuarters(t *testing.T) {
	r := seeded()
	for range 100 {
		m := randomMap(r, 1+r.Intn(6), r.Intn(4))
		tower := point(r.Intn(200)-100, r.Intn(200)-100)
		north := placed(t, m, tower, 0)
		for quarter := range 4 {
			isList(t, "Placed with a quarter", placed(t, m, tower, quarter), turned(t, north, tower, quarter))
		}
		l, about := randomCells(r, r.Intn(20), 9, 1<<15), point(r.Intn(41)-20, r.Intn(41)-20)
		for first := range 4 {
			once := turned(t, l, about, first)
			isInt(t, "Total of Turned", total(t, once), total(t, l))
			for second := range 4 {
				isList(t, "Turned twice", turned(t, once, about, second), turned(t, l, about, (first+second)%4))
			}
		}
		four := l
		for range 4 {
			four = turned(t, four, about, 1)
		}
		isList(t, "Turned by four quarters", four, slowOrder(l))
	}
}

func TestTogether(t *testing.T) {
	a := []cell{{6, 4, 2}, {7, 4, 5}, {8, 4, 3}}
	for _, c := range []struct{ a, b, want []cell }{
		{a, []cell{{7, 4, 1}, {9, 3, 2}}, []cell{{9, 3, 2}, {6, 4, 2}, {7, 4, 6}, {8, 4, 3}}},
		{nil, nil, nil},
		{nil, []cell{}, nil},
		{a, nil, a},
		{nil, a, a},
		{[]cell{{1, 2, 0}}, []cell{{1, 2, 0}}, nil},
		{[]cell{{1, 2, 0}}, []cell{{1, 2, 7}}, []cell{{1, 2, 7}}},
		{[]cell{{2, 1, 1}, {1, 2, 2}}, []cell{{2, 2, 3}, {1, 1, 4}}, []cell{{1, 1, 4}, {2, 1, 1}, {1, 2, 2}, {2, 2, 3}}},
		{[]cell{{1, 2, 1}, {1, 2, 1}}, []cell{{1, 2, 1}, {1, 2, 1}}, []cell{{1, 2, 4}}},
		{[]cell{{1, 2, 1 << 19}}, []cell{{1, 2, 1 << 19}}, []cell{{1, 2, 1 << 20}}},
		{[]cell{{-1 << 20, 1 << 20, 1}}, []cell{{1 << 20, -1 << 20, 1}}, []cell{{1 << 20, -1 << 20, 1}, {-1 << 20, 1 << 20, 1}}},
	} {
		isList(t, "Together", together(t, c.a, c.b), c.want)
	}
}

func TestTogetherSums(t *testing.T) {
	r := seeded()
	for range 300 {
		a, b, c := randomCells(r, r.Intn(20), 2, 1<<12), randomCells(r, r.Intn(20), 2, 1<<12), randomCells(r, r.Intn(20), 2, 1<<12)
		both := together(t, a, b)
		isList(t, "Together", both, slowOrder(slices.Concat(a, b)))
		isList(t, "Together the other way round", together(t, b, a), both)
		isList(t, "Together of three", together(t, both, c), together(t, a, together(t, b, c)))
		isInt(t, "Total of Together", total(t, both), total(t, a)+total(t, b))
		isList(t, "Together with no cells", together(t, a, nil), slowOrder(a))
	}
}

func TestTogetherErrors(t *testing.T) {
	is := func(what string, a, b []cell, want api.Errno) {
		t.Helper()
		got, e := foot.Together(a, b)
		isCode(t, "Together with "+what, e, want)
		isTrue(t, "Together has a zero value with "+what, e == api.OK || len(got) == 0)
	}
	const most = 1 << 20
	heavy := []cell{{5, 5, most}, {5, 5, 1}}
	for _, c := range cellsCases() {
		is("a first list of "+c.what, c.l, nil, c.want)
		is("a second list of "+c.what, nil, c.l, c.want)
		for _, d := range cellsCases() {
			if c.want != api.OK {
				is("a first list of "+c.what+", and a second one of "+d.what, c.l, d.l, c.want)
				is("a first list that is too heavy, and a second one of "+c.what, heavy, c.l, c.want)
				is("a first list of "+c.what+", and a second one that is too heavy", c.l, heavy, c.want)
			}
		}
	}
	is("a first list that is too heavy", heavy, nil, api.ErrFull)
	is("a second list that is too heavy", nil, heavy, api.ErrFull)
	is("a sum too great", []cell{{5, 5, most}}, []cell{{4, 5, 1}, {5, 5, 1}}, api.ErrFull)
	is("a sum just not too great", []cell{{5, 5, most - 1}}, []cell{{4, 5, 1}, {5, 5, 1}}, api.OK)
	is("a sum far too great", slices.Repeat([]cell{{5, 5, most}}, 600), slices.Repeat([]cell{{5, 5, most}}, 600), api.ErrFull)

	row := func(count, y, weight int) []cell {
		l := make([]cell, count)
		for i := range l {
			l[i] = cell{X: i, Y: y, Weight: weight}
		}
		return l
	}
	is("600 cells", row(300, 0, 1), row(300, 1, 1), api.OK)
	is("601 cells", row(300, 0, 1), row(301, 1, 1), api.ErrFull)
	is("1200 cells", row(600, 0, 1), row(600, 1, 1), api.ErrFull)
	is("1200 cells at 600 places", row(600, 0, 1), row(600, 0, 1), api.OK)
	is("1200 cells, half of them without weight", row(600, 0, 1), row(600, 1, 0), api.OK)
	isInt(t, "how many cells 600 places have", len(together(t, row(600, 0, 1), row(600, 0, 1))), 600)
}

func TestTotal(t *testing.T) {
	isInt(t, "Total of none", total(t, nil), 0)
	isInt(t, "Total", total(t, []cell{{1, 1, 2}, {1, 1, 5}, {0, 0, 0}, {9, 9, 4}}), 11)
	isInt(t, "Total of the most", total(t, slices.Repeat([]cell{{1, 1, 1 << 20}}, 600)), 600<<20)
	for _, c := range cellsCases() {
		n, e := foot.Total(c.l)
		isCode(t, "Total of "+c.what, e, c.want)
		if c.want != api.OK {
			isInt(t, "Total of "+c.what, n, 0)
		} else {
			isInt(t, "Total of "+c.what, n, sumOfWeights(c.l))
		}
	}
}

func TestPeak(t *testing.T) {
	for _, c := range []struct {
		l    []cell
		want cell
	}{
		{[]cell{{7, 4, 6}}, cell{7, 4, 6}},
		{[]cell{{7, 4, 6}, {1, 1, 9}, {3, 3, 8}}, cell{1, 1, 9}},
		{[]cell{{7, 4, 6}, {9, 9, 7}, {1, 1, 7}, {3, 3, 7}}, cell{9, 9, 7}},
		{[]cell{{7, 4, 3}, {7, 4, 3}, {1, 1, 5}}, cell{1, 1, 5}}, // weights are not added
		{[]cell{{7, 4, 0}, {1, 1, 0}}, cell{7, 4, 0}},
		{[]cell{{7, 4, 0}, {1, 1, 1}}, cell{1, 1, 1}},
	} {
		got := right[cell](t, "Peak")(foot.Peak(c.l))
		isTrue(t, "Peak is the first greatest cell", got == c.want)
	}
	for _, c := range cellsCases() {
		got, e := foot.Peak(c.l)
		want := c.want
		if want == api.OK && len(c.l) == 0 {
			want = api.ErrNone
		}
		isCode(t, "Peak of "+c.what, e, want)
		isTrue(t, "Peak has a zero value with "+c.what, e == api.OK || got == cell{})
	}
}

func TestPeakModel(t *testing.T) {
	r := seeded()
	for range 300 {
		l := randomCells(r, 1+r.Intn(40), 5, 1+r.Intn(30))
		best := 0
		for i, c := range l {
			if c.Weight > l[best].Weight {
				best = i
			}
		}
		isTrue(t, "Peak is the first greatest cell", right[cell](t, "Peak")(foot.Peak(l)) == l[best])
	}
}

func weighing(weights ...int) []cell {
	l := make([]cell, len(weights))
	for i, weight := range weights {
		l[i] = cell{X: -i, Y: i % 3, Weight: weight}
	}
	return l
}

func TestLeast(t *testing.T) {
	for _, c := range []struct {
		l        []cell
		part, of int
		want     []int
	}{
		{weighing(2, 5, 3), 3, 4, []int{1, 2}},
		{weighing(2, 5, 3), 4, 5, []int{1, 2}},
		{weighing(2, 5, 3), 801, 1000, []int{0, 1, 2}},
		{weighing(2, 5, 3), 1, 2, []int{1}},
		{weighing(2, 5, 3), 501, 1000, []int{1, 2}},
		{weighing(2, 5, 3), 0, 4, nil},
		{weighing(2, 5, 3), 1, 1, []int{0, 1, 2}},
		{weighing(0, 5, 0, 3), 7, 7, []int{1, 3}},
		{weighing(0, 0, 0), 1, 1, nil},
		{nil, 1, 1, nil},
		{weighing(1, 1, 1, 1), 1, 2, []int{0, 1}},
		{weighing(1, 2, 1, 2, 1), 5, 7, []int{0, 1, 3}},
		{weighing(3, 9, 9, 9), 1, 1000, []int{1}},
		{slices.Repeat([]cell{{0, 0, 1 << 20}}, 600), 1, 600, []int{0}},
		{slices.Repeat([]cell{{0, 0, 1 << 20}}, 600), 3, 600, []int{0, 1, 2}},
		{slices.Repeat([]cell{{0, 0, 1}}, 600), 3, 1000, []int{0, 1}},
	} {
		isList(t, "Least", least(t, c.l, c.part, c.of), c.want)
	}
}

// slowLeast takes cells as the text says: each time the first one of those with the greatest weight that are left.
func slowLeast(l []cell, part, of int) []int {
	var taken []int
	for sum := 0; of*sum < part*sumOfWeights(l); {
		best := -1
		for i, c := range l {
			if !slices.Contains(taken, i) && (best < 0 || c.Weight > l[best].Weight) {
				best = i
			}
		}
		taken = append(taken, best)
		sum += l[best].Weight
	}
	slices.Sort(taken)
	return taken
}

func TestLeastIsFewest(t *testing.T) {
	r := seeded()
	for range 300 {
		l := randomCells(r, r.Intn(9), 5, 1+r.Intn(12))
		of := 1 + r.Intn(20)
		part := r.Intn(of + 1)
		all := total(t, l)
		got := least(t, l, part, of)
		isList(t, "Least", got, slowLeast(l, part, of))
		sum := 0
		for _, i := range got {
			sum += l[i].Weight
		}
		isTrue(t, "the cells of Least have the part", of*sum >= part*all)
		for chosen := range 1 << len(l) {
			count, sum := 0, 0
			for i, c := range l {
				if chosen>>i&1 == 1 {
					count++
					sum += c.Weight
				}
			}
			isTrue(t, "no fewer cells have the part", count >= len(got) || of*sum < part*all)
		}
		if part < of {
			isTrue(t, "a greater part needs no fewer cells", len(least(t, l, part+1, of)) >= len(got))
		}
	}
	for range 30 {
		l := randomCells(r, 560+r.Intn(41), 400, 1<<20)
		part := r.Intn(1001)
		isList(t, "Least of many cells", least(t, l, part, 1000), slowLeast(l, part, 1000))
	}
}

func TestLeastErrors(t *testing.T) {
	for _, c := range cellsCases() {
		for _, part := range [][2]int{{1, 2}, {0, 0}, {0, -1}, {-1, -1}, {1, 1001}, {0, math.MaxInt}, {0, math.MinInt}, {-1, 3}, {4, 3}, {math.MaxInt, 1000}, {math.MinInt, 1000}, {1, 0}} {
			want := c.want
			if want == api.OK && part != [2]int{1, 2} {
				want = api.ErrArg
			}
			got, e := foot.Least(c.l, part[0], part[1])
			isCode(t, "Least of "+c.what, e, want)
			isTrue(t, "Least has a zero value with "+c.what, e == api.OK || len(got) == 0)
		}
	}
	isInt(t, "how many cells the greatest part has", len(least(t, weighing(1, 1), 1000, 1000)), 2)
}

func TestCellsKeepTheirArguments(t *testing.T) {
	mark := cell{77, 77, 77}
	a, sameA := behind(t, []cell{{5, 5, 1}, {4, 4, 2}, {5, 5, 3}, {1, 1, 0}}, mark)
	b, sameB := behind(t, []cell{{4, 4, 7}, {-1, 9, 2}, {-3, 3, 4}}, mark)
	row, sameRow := behind(t, []int{2, 5, 3}, 99)
	m := [][]int{row, {1, 1, 1}}[:1]
	for range 2 { // twice, as nothing is kept
		for quarter := range 4 {
			l := turned(t, a, point(2, 3), quarter)
			isList(t, "Turned", l, slowTurned(a, point(2, 3), quarter))
			scribble(l, mark)
			l = placed(t, m, point(2, 3), quarter)
			isList(t, "Placed", l, slowPlaced(m, point(2, 3), quarter))
			scribble(l, mark)
		}
		for _, l := range [][]cell{together(t, a, b), together(t, b, a)} {
			isList(t, "Together", l, slowOrder(slices.Concat(a, b)))
			scribble(l, mark)
		}
		ordered := slowOrder(a)
		for _, l := range [][]cell{together(t, ordered, nil), together(t, nil, ordered), turned(t, ordered, point(0, 0), 0)} {
			isList(t, "a list that is in order", l, slowOrder(a))
			scribble(l, mark)
		}
		isInt(t, "Total", total(t, a), 6)
		isTrue(t, "Peak", right[cell](t, "Peak")(foot.Peak(b)) == cell{4, 4, 7})
		l := least(t, a, 1, 2)
		isList(t, "Least", l, []int{2})
		scribble(l, 9)
	}
	sameA()
	sameB()
	sameRow()
	isList(t, "what is behind the rows", m[:2][1], []int{1, 1, 1})
}

// P1: no call panics, and an error comes alone.
func TestAnyCells(t *testing.T) {
	r := seeded()
	any := func() []cell {
		l := make([]cell, r.Intn(4))
		for i := range l {
			l[i] = cell{extreme(r), extreme(r), extreme(r)}
		}
		return l
	}
	for range 5000 {
		a, b := any(), any()
		at := point(extreme(r), extreme(r))
		l, e := foot.Turned(a, at, r.Intn(6)-1)
		isTrue(t, "an error of Turned comes alone", e == api.OK || len(l) == 0)
		l, e = foot.Together(a, b)
		isTrue(t, "an error of Together comes alone", e == api.OK || len(l) == 0)
		l, e = foot.Placed([][]int{{extreme(r)}}, at, r.Intn(6)-1)
		isTrue(t, "an error of Placed comes alone", e == api.OK || len(l) == 0)
		n, e := foot.Total(a)
		isTrue(t, "an error of Total comes alone", e == api.OK || n == 0)
		c, e := foot.Peak(a)
		isTrue(t, "an error of Peak comes alone", e == api.OK || c == cell{})
		indices, e := foot.Least(a, extreme(r), extreme(r))
		isTrue(t, "an error of Least comes alone", e == api.OK || len(indices) == 0)
	}
}
