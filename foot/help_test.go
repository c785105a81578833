package foot_test

import (
	"math"
	"math/big"
	"math/rand"
	"slices"
	"strings"
	"testing"

	"fluxmast/api"
	"fluxmast/foot"
	"fluxmast/num"
)

// The numbers of the tests come from a fixed seed.

func seeded() *rand.Rand {
	return rand.New(rand.NewSource(1))
}

func isCode(t testing.TB, what string, got, want api.Errno) {
	t.Helper()
	if got != want {
		t.Errorf("%s: error %d, want %d", what, got, want)
	}
}

func isText(t testing.TB, what, got, want string) {
	t.Helper()
	if got != want {
		t.Errorf("%s: %s, want %s", what, got, want)
	}
}

func isInt(t testing.TB, what string, got, want int) {
	t.Helper()
	if got != want {
		t.Errorf("%s: %d, want %d", what, got, want)
	}
}

// isList tests that two lists have the same elements.
func isList[T comparable](t testing.TB, what string, got, want []T) {
	t.Helper()
	if !slices.Equal(got, want) {
		t.Errorf("%s: %v, want %v", what, got, want)
	}
}

func isTrue(t testing.TB, what string, holds bool) {
	t.Helper()
	if !holds {
		t.Error("it does not hold:", what)
	}
}

// isPatch tests that two patches are the same.
func isPatch(t testing.TB, what string, got, want foot.Patch) {
	t.Helper()
	if got.Owner != want.Owner || got.Days != want.Days || !slices.Equal(got.Corners, want.Corners) {
		t.Errorf("%s: %v, want %v", what, got, want)
	}
}

// right returns what is made of a result and its error: the result, after a test that there is no error.
func right[T any](t testing.TB, what string) func(x T, e api.Errno) T {
	return func(x T, e api.Errno) T {
		t.Helper()
		isCode(t, what, e, api.OK)
		return x
	}
}

// frac is the fraction with a text.
func frac(text string) num.Frac {
	x, e := num.Parse(text)
	if e != api.OK {
		panic("not a fraction: " + text)
	}
	return x
}

// fracOf is the fraction of a model, whose numerator and denominator have at most MaxDigits digits.
func fracOf(r *big.Rat) num.Frac {
	x, e := frac(r.Num().String()).Div(frac(r.Denom().String()))
	if e != api.OK {
		panic("not a fraction: " + r.String())
	}
	return x
}

func rat(x num.Frac) *big.Rat {
	r, ok := new(big.Rat).SetString(x.Text())
	if !ok {
		panic("not a fraction: " + x.Text())
	}
	return r
}

func ratOf(n int) *big.Rat          { return big.NewRat(int64(n), 1) }
func ratAdd(x, y *big.Rat) *big.Rat { return new(big.Rat).Add(x, y) }
func ratSub(x, y *big.Rat) *big.Rat { return new(big.Rat).Sub(x, y) }
func ratMul(x, y *big.Rat) *big.Rat { return new(big.Rat).Mul(x, y) }
func ratQuo(x, y *big.Rat) *big.Rat { return new(big.Rat).Quo(x, y) }

func power2(n uint) *big.Int {
	return new(big.Int).Lsh(big.NewInt(1), n)
}

// tenPower is a text of a power of ten.
func tenPower(n int) string {
	return "1" + strings.Repeat("0", n)
}

// slowFallen is the greatest integer that is not above n e^-r, for an r above 0: the series of e^r, with so many bits that there is just one such integer.
func slowFallen(n *big.Int, r *big.Rat) *big.Int {
	for bits := uint(512); ; bits *= 2 {
		unit := power2(bits)
		x := new(big.Int).Mul(r.Num(), unit)
		x.Quo(x, r.Denom())
		term, sum := unit, new(big.Int)
		for k := int64(1); term.Sign() > 0; k++ {
			sum.Add(sum, term)
			term = new(big.Int).Mul(term, x)
			term.Rsh(term, bits)
			term.Quo(term, big.NewInt(k))
		}
		over := new(big.Int).Add(sum, power2(400)) // more than all roundings for an r of at most 64
		whole := new(big.Int).Mul(n, unit)
		low, high := new(big.Int).Quo(whole, over), new(big.Int).Quo(whole, sum)
		if low.Cmp(high) == 0 {
			return low
		}
	}
}

// logarithm is the logarithm of n/d, which is above 1, in units of 2^-bits, rounded down: that of 2 as often as d has to be doubled, and that of what is left.
func logarithm(n, d int, bits uint) *big.Int {
	twos := int64(0)
	for ; 2*d <= n; d *= 2 {
		twos++
	}
	sum := new(big.Int).Mul(tangent(1, 3, bits+64), big.NewInt(twos))
	sum.Add(sum, tangent(n-d, n+d, bits+64))
	return sum.Rsh(sum, 63)
}

// tangent is the sum of all z^k/k for odd k and z = n/d, in units of 2^-bits.
func tangent(n, d int, bits uint) *big.Int {
	z := new(big.Int).Mul(big.NewInt(int64(n)), power2(bits))
	z.Quo(z, big.NewInt(int64(d)))
	square := new(big.Int).Mul(z, z)
	square.Rsh(square, bits)
	sum := new(big.Int)
	for k := int64(1); z.Sign() > 0; k += 2 {
		sum.Add(sum, new(big.Int).Quo(z, big.NewInt(k)))
		z = new(big.Int).Mul(z, square)
		z.Rsh(z, bits)
	}
	return sum
}

// Cells.

type cell = foot.Cell

func point(x, y int) api.Point {
	return api.Point{X: x, Y: y}
}

// turnedPoint follows the table of the quarters.
func turnedPoint(p, about api.Point, quarter int) api.Point {
	x, y, a, b := p.X, p.Y, about.X, about.Y
	way := [4]api.Point{{X: x - a, Y: y - b}, {X: b - y, Y: x - a}, {X: a - x, Y: b - y}, {X: y - b, Y: a - x}}[quarter]
	return point(a+way.X, b+way.Y)
}

// turnedCell turns two opposite corners of the square.
func turnedCell(c cell, about api.Point, quarter int) cell {
	p := turnedPoint(point(c.X, c.Y), about, quarter)
	q := turnedPoint(point(c.X+1, c.Y+1), about, quarter)
	return cell{X: min(p.X, q.X), Y: min(p.Y, q.Y), Weight: c.Weight}
}

// slowOrder adds the weights place by place, and takes the places in order.
func slowOrder(l []cell) []cell {
	sums := map[api.Point]int{}
	for _, c := range l {
		sums[point(c.X, c.Y)] += c.Weight
	}
	var all []cell
	for p, sum := range sums {
		if sum > 0 {
			all = append(all, cell{X: p.X, Y: p.Y, Weight: sum})
		}
	}
	slices.SortFunc(all, func(a, b cell) int {
		if a.Y != b.Y {
			return a.Y - b.Y
		}
		return a.X - b.X
	})
	return all
}

// randomCells is cells near the origin, some of them several times, and some with the weight 0.
func randomCells(r *rand.Rand, count, wide, most int) []cell {
	l := make([]cell, count)
	for i := range l {
		l[i] = cell{X: r.Intn(2*wide+1) - wide, Y: r.Intn(2*wide+1) - wide, Weight: r.Intn(most + 1)}
		if r.Intn(4) == 0 {
			l[i].Weight = r.Intn(2)
		}
	}
	return l
}

// cellsCase is cells with their error.
type cellsCase struct {
	what string
	l    []cell
	want api.Errno
}

func cellsCases() []cellsCase {
	cases := []cellsCase{
		{"no list", nil, api.OK},
		{"an empty list", []cell{}, api.OK},
		{"600 cells", make([]cell, 600), api.OK},
		{"601 cells", make([]cell, 601), api.ErrSize},
		{"601 cells that are none", slices.Repeat([]cell{{Weight: -1}}, 601), api.ErrSize},
		{"the corners of the ground", []cell{{X: -1 << 20, Y: -1 << 20, Weight: 1}, {X: 1 << 20, Y: 1 << 20, Weight: 1}}, api.OK},
		{"the greatest weight", []cell{{Weight: 1 << 20}}, api.OK},
	}
	for _, n := range []int{1<<20 + 1, -1<<20 - 1, math.MaxInt, math.MinInt, math.MinInt + 1} {
		cases = append(cases,
			cellsCase{"an x beyond the ground", []cell{{X: n}}, api.ErrArg},
			cellsCase{"a y beyond the ground", []cell{{Y: n}}, api.ErrArg},
			cellsCase{"a last x beyond the ground", []cell{{}, {}, {X: n, Weight: 1}}, api.ErrArg},
			cellsCase{"a last y beyond the ground", []cell{{}, {}, {Y: n, Weight: 1}}, api.ErrArg},
			cellsCase{"a weight that is none", []cell{{Weight: n}}, api.ErrArg},
			cellsCase{"a last weight that is none", []cell{{Weight: 1}, {Weight: n}}, api.ErrArg})
	}
	return append(cases, cellsCase{"a weight below 0", []cell{{Weight: -1}, {Weight: 1}}, api.ErrArg})
}

// Patches.

// patch is the patch with the corners of a list of coordinates, on the days from 1 to 5.
func patch(coordinates ...int) foot.Patch {
	p := foot.Patch{Owner: 3, Days: api.Range{Lo: 1, Hi: 5}}
	for xy := range slices.Chunk(coordinates, 2) {
		p.Corners = append(p.Corners, point(xy[0], xy[1]))
	}
	return p
}

func box(x0, y0, x1, y1 int) foot.Patch {
	return patch(x0, y0, x1, y0, x1, y1, x0, y1)
}

// on is a patch that is there on other days.
func on(p foot.Patch, lo, hi int) foot.Patch {
	p.Days = api.Range{Lo: lo, Hi: hi}
	return p
}

// twelve is a patch with as many corners as there may be.
func twelve() foot.Patch {
	return patch(0, -60, 30, -52, 52, -30, 60, 0, 52, 30, 30, 52, 0, 60, -30, 52, -52, 30, -60, 0, -52, -30, -30, -52)
}

// left is twice the area of a triangle, above 0, if c is to the left of the way from a to b.
func left(a, b, c api.Point) int {
	return (b.X-a.X)*(c.Y-a.Y) - (b.Y-a.Y)*(c.X-a.X)
}

// hull is the corners of the least convex polygon that has all points, counterclockwise.
func hull(points []api.Point) []api.Point {
	slices.SortFunc(points, func(a, b api.Point) int {
		if a.X != b.X {
			return a.X - b.X
		}
		return a.Y - b.Y
	})
	points = slices.Compact(points)
	half := func() []api.Point {
		var l []api.Point
		for _, p := range points {
			for len(l) > 1 && left(l[len(l)-2], l[len(l)-1], p) <= 0 {
				l = l[:len(l)-1]
			}
			l = append(l, p)
		}
		return l[:len(l)-1]
	}
	lower := half()
	slices.Reverse(points)
	return append(lower, half()...)
}

// randomPatch is a patch that is no further than most from the origin, with its first corner anywhere.
func randomPatch(r *rand.Rand, most int) foot.Patch {
	for {
		points := make([]api.Point, 3+r.Intn(30))
		for i := range points {
			points[i] = point(r.Intn(2*most+1)-most, r.Intn(2*most+1)-most)
		}
		corners := hull(points)
		for len(corners) > 12 || len(corners) > 3 && r.Intn(4) == 0 {
			i := r.Intn(len(corners))
			corners = slices.Delete(corners, i, i+1)
		}
		if len(corners) < 3 {
			continue
		}
		i := r.Intn(len(corners))
		lo := r.Intn(9)
		return foot.Patch{Owner: r.Intn(9), Corners: append(slices.Clone(corners[i:]), corners[:i]...), Days: api.Range{Lo: lo, Hi: lo + r.Intn(5)}}
	}
}

// moved is a patch that is moved on the ground.
func moved(p foot.Patch, x, y int) foot.Patch {
	p.Corners = slices.Clone(p.Corners)
	for i := range p.Corners {
		p.Corners[i].X += x
		p.Corners[i].Y += y
	}
	return p
}

// reach is the least and the greatest coordinates of a patch.
func reach(p foot.Patch) (x0, y0, x1, y1 int) {
	x0, y0 = p.Corners[0].X, p.Corners[0].Y
	x1, y1 = x0, y0
	for _, c := range p.Corners {
		x0, y0, x1, y1 = min(x0, c.X), min(y0, c.Y), max(x1, c.X), max(y1, c.Y)
	}
	return x0, y0, x1, y1
}

// patchCase is a patch with its error.
type patchCase struct {
	what string
	p    foot.Patch
	want api.Errno
}

func patchCases() []patchCase {
	thirteen := twelve()
	thirteen.Corners = slices.Insert(thirteen.Corners, 2, point(42, -43))
	cases := []patchCase{
		{"a triangle", patch(0, 0, 2, 0, 0, 2), api.OK},
		{"12 corners", twelve(), api.OK},
		{"the whole ground", box(-1<<20, -1<<20, 1<<20, 1<<20), api.OK},
		{"one day", on(box(0, 0, 1, 1), 7, 7), api.OK},
		{"all days", on(box(0, 0, 1, 1), math.MinInt, math.MaxInt), api.OK},
		{"a sliver", patch(0, 0, 1<<20, 1<<20-1, 1, 1), api.OK},
		{"no corner", patch(), api.ErrSize},
		{"an empty list", foot.Patch{Corners: []api.Point{}}, api.ErrSize},
		{"one corner", patch(0, 0), api.ErrSize},
		{"two corners", patch(0, 0, 1, 0), api.ErrSize},
		{"13 corners", thirteen, api.ErrSize},
		{"13 corners beyond the ground", foot.Patch{Corners: slices.Repeat([]api.Point{{X: 1 << 21}}, 13)}, api.ErrSize},
		{"two corners, and no day", on(patch(0, 0, 1, 0), 5, 4), api.ErrSize},
		{"clockwise", patch(0, 0, 0, 2, 2, 0), api.ErrOrder},
		{"12 corners clockwise", reversed(twelve()), api.ErrOrder},
		{"a first corner on a side", patch(1, 0, 2, 0, 0, 2, 0, 0), api.ErrOrder},
		{"a last corner on a side", patch(0, 0, 2, 0, 0, 2, 0, 1), api.ErrOrder},
		{"three corners on a line", patch(0, 0, 1, 1, 2, 2), api.ErrOrder},
		{"a corner twice, one after the other", patch(0, 0, 2, 0, 2, 0, 0, 2), api.ErrOrder},
		{"a corner twice, at both ends", patch(0, 0, 2, 0, 0, 2, 0, 0), api.ErrOrder},
		{"a corner twice, apart", patch(0, 0, 2, 0, 0, 0, 0, 2), api.ErrOrder},
		{"one point three times", patch(1, 1, 1, 1, 1, 1), api.ErrOrder},
		{"an arrow", patch(0, 0, 4, 0, 1, 1, 0, 4), api.ErrOrder},
		{"a bend that hardly is one", patch(0, 0, 1<<20, 0, 1<<19+1, 1, 0, 2), api.OK},
		{"a corner that just is on a side", patch(0, 0, 1<<20, 0, 1<<19, 1, 0, 2), api.ErrOrder},
		{"a dent that hardly is one", patch(0, 0, 1<<20, 0, 1<<19-1, 1, 0, 2), api.ErrOrder},
		{"a bow", patch(0, 0, 2, 2, 2, 0, 0, 2), api.ErrOrder},
		{"a star", patch(0, 3, -2, -3, 3, 1, -3, 1, 2, -3), api.ErrOrder},
		{"a triangle twice around", patch(0, 0, 2, 0, 0, 2, 0, 0, 2, 0, 0, 2), api.ErrOrder},
		{"twice around", patch(0, 0, 9, 0, 10, 5, 5, 10, 0, 1, 8, 0, 9, 5, 5, 9), api.ErrOrder},
		{"no day", on(patch(0, 0, 2, 0, 0, 2), 5, 4), api.ErrOrder},
		{"no day, at the ends", on(patch(0, 0, 2, 0, 0, 2), math.MaxInt, math.MinInt), api.ErrOrder},
	}
	for _, n := range []int{1<<20 + 1, -1<<20 - 1, math.MaxInt, math.MinInt, math.MinInt + 1} {
		cases = append(cases,
			patchCase{"a first x beyond the ground", patch(n, 0, 2, 0, 0, 2), api.ErrArg},
			patchCase{"a first y beyond the ground", patch(0, n, 2, 0, 0, 2), api.ErrArg},
			patchCase{"a last x beyond the ground", patch(0, 0, 2, 0, n, 2), api.ErrArg},
			patchCase{"a last y beyond the ground", patch(0, 0, 2, 0, 0, n), api.ErrArg},
			patchCase{"two corners beyond the ground", patch(0, n, n, 0), api.ErrSize},
			patchCase{"an arrow beyond the ground", patch(0, 0, 4, 0, 1, 1, 0, n), api.ErrArg},
			patchCase{"clockwise beyond the ground, and no day", on(patch(0, 0, 0, 2, n, 0), 5, 4), api.ErrArg})
	}
	return cases
}

func reversed(p foot.Patch) foot.Patch {
	p.Corners = slices.Clone(p.Corners)
	slices.Reverse(p.Corners)
	return p
}

// slowCover is the area that a patch and a cell have in common, as the sum of the heights of stripes in which all lines are straight: each has the height that it has in its middle.
func slowCover(p foot.Patch, x, y int) *big.Rat {
	area := new(big.Rat)
	ends := stripes(p, x, y)
	for i := 1; i < len(ends); i++ {
		middle := ratMul(ratAdd(ends[i-1], ends[i]), big.NewRat(1, 2))
		area = ratAdd(area, ratMul(ratSub(ends[i], ends[i-1]), height(p, middle, y)))
	}
	return area
}

// stripes is the ends of the stripes of a cell, ascending.
func stripes(p foot.Patch, x, y int) []*big.Rat {
	ends := []*big.Rat{ratOf(x), ratOf(x + 1)}
	add := func(end *big.Rat) {
		if end.Cmp(ratOf(x)) > 0 && end.Cmp(ratOf(x+1)) < 0 {
			ends = append(ends, end)
		}
	}
	for i, a := range p.Corners {
		b := p.Corners[(i+1)%len(p.Corners)]
		for _, level := range []int{y, y + 1} {
			if a.Y != b.Y {
				add(ratAdd(ratOf(a.X), big.NewRat(int64((level-a.Y)*(b.X-a.X)), int64(b.Y-a.Y))))
			}
		}
	} // corners have no fraction, so that none of them is inside of a cell's stripes
	slices.SortFunc(ends, func(a, b *big.Rat) int { return a.Cmp(b) })
	return ends
}

// height is how much a patch has of a line through the cells of a row, which goes through no corner.
func height(p foot.Patch, x *big.Rat, y int) *big.Rat {
	var crossed []*big.Rat
	for i, a := range p.Corners {
		b := p.Corners[(i+1)%len(p.Corners)]
		if ratOf(min(a.X, b.X)).Cmp(x) < 0 && x.Cmp(ratOf(max(a.X, b.X))) < 0 {
			slope := big.NewRat(int64(b.Y-a.Y), int64(b.X-a.X))
			crossed = append(crossed, ratAdd(ratOf(a.Y), ratMul(slope, ratSub(x, ratOf(a.X)))))
		}
	}
	if len(crossed) != 2 {
		return new(big.Rat)
	}
	low, high := crossed[0], crossed[1]
	if low.Cmp(high) > 0 {
		low, high = high, low
	}
	if low.Cmp(ratOf(y)) < 0 {
		low = ratOf(y)
	}
	if high.Cmp(ratOf(y+1)) > 0 {
		high = ratOf(y + 1)
	}
	if low.Cmp(high) >= 0 {
		return new(big.Rat)
	}
	return ratSub(high, low)
}

// Arguments.

// extreme is a number that is likely to be just inside or outside of a limit.
func extreme(r *rand.Rand) int {
	limits := []int{0, 1, 3, 4, 8, 12, 32, 600, 1000, 1 << 19, 1 << 20, 1 << 31, 1 << 40, math.MaxInt - 2, math.MinInt + 2}
	n := limits[r.Intn(len(limits))]
	if r.Intn(3) == 0 {
		n = -n
	}
	return n + r.Intn(5) - 2
}

// behind is l in memory that goes on behind its end, with a function that tests that nothing there was changed.
func behind[T comparable](t testing.TB, l []T, mark T) ([]T, func()) {
	t.Helper()
	memory := append(append([]T{}, l...), mark, mark)
	before := slices.Clone(memory)
	return memory[:len(l)], func() {
		t.Helper()
		isList(t, "the argument, and what is behind it", memory, before)
	}
}

// scribble changes a result, which must not change what else there is.
func scribble[T any](l []T, mark T) {
	for i := range l {
		l[i] = mark
	}
}
