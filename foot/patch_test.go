package foot_test

import (
	"math"
	"math/big"
	"slices"
	"testing"

	"fluxmast/api"
	"fluxmast/foot"
	"fluxmast/num"
)

// P7.1, P7.6 and P7.7: patches.

func areaOf(t testing.TB, p foot.Patch) int {
	t.Helper()
	return right[int](t, "Area")(foot.Area(p))
}

func cover(t testing.TB, p foot.Patch, x, y int) *big.Rat {
	t.Helper()
	return rat(right[num.Frac](t, "Cover")(foot.Cover(p, x, y)))
}

func share(t testing.TB, l []cell, p foot.Patch) *big.Rat {
	t.Helper()
	return rat(right[num.Frac](t, "Share")(foot.Share(l, p)))
}

func shares(t testing.TB, l []cell, patches []foot.Patch, day int) []num.Frac {
	t.Helper()
	return right[[]num.Frac](t, "Shares")(foot.Shares(l, patches, day))
}

func split(t testing.TB, p foot.Patch, i, k int) (first, second foot.Patch) {
	t.Helper()
	first, second, e := foot.Split(p, i, k)
	isCode(t, "Split", e, api.OK)
	return first, second
}

func isRat(t testing.TB, what string, got, want *big.Rat) {
	t.Helper()
	if got.Cmp(want) != 0 {
		t.Errorf("%s: %s, want %s", what, got.RatString(), want.RatString())
	}
}

func isZeroPatch(p foot.Patch) bool {
	return p.Owner == 0 && len(p.Corners) == 0 && p.Days == api.Range{}
}

// some is patches of all sizes.
func some(t testing.TB, count int, mosts ...int) []foot.Patch {
	t.Helper()
	l := []foot.Patch{twelve(), patch(0, 0, 2, 0, 0, 2), patch(0, 0, 3, 0, 0, 1), box(-1<<20, -1<<20, 1<<20, 1<<20), patch(0, 0, 1<<20, 1<<20-1, 1, 1)}
	r := seeded()
	for range count {
		for _, most := range mosts {
			l = append(l, randomPatch(r, most))
		}
	}
	for _, p := range l {
		isCode(t, "CheckPatch", foot.CheckPatch(p), api.OK)
	}
	return l
}

func slowArea(p foot.Patch) int {
	area := 0
	for i := 2; i < len(p.Corners); i++ {
		area += left(p.Corners[0], p.Corners[i-1], p.Corners[i])
	}
	return area
}

func slowShare(l []cell, p foot.Patch) *big.Rat {
	sum := new(big.Rat)
	for _, c := range l {
		sum = ratAdd(sum, ratMul(ratOf(c.Weight), slowCover(p, c.X, c.Y)))
	}
	return sum
}

func TestCheckPatch(t *testing.T) {
	for _, c := range patchCases() {
		isCode(t, "CheckPatch of "+c.what, foot.CheckPatch(c.p), c.want)
		n, e := foot.Area(c.p)
		isCode(t, "Area of "+c.what, e, c.want)
		isTrue(t, "Area has a zero value with "+c.what, e == api.OK || n == 0)
	}
}

// Of all orders of five corners just those that go around once, counterclockwise, are patches.
func TestOrderOfCorners(t *testing.T) {
	corners := patch(0, 0, 4, -1, 6, 2, 3, 5, -1, 3).Corners
	var try func(taken []int)
	found := 0
	try = func(taken []int) {
		if len(taken) == len(corners) {
			p, around := foot.Patch{}, true
			for at, i := range taken {
				p.Corners = append(p.Corners, corners[i])
				around = around && taken[(at+1)%5] == (i+1)%5
			}
			want := api.ErrOrder
			if around {
				want = api.OK
				found++
			}
			isCode(t, "CheckPatch of five corners", foot.CheckPatch(p), want)
			return
		}
		for i := range corners {
			if !slices.Contains(taken, i) {
				try(append(slices.Clone(taken), i))
			}
		}
	}
	try(nil)
	isInt(t, "how many orders go around", found, 5)
}

func TestArea(t *testing.T) {
	isInt(t, "Area of the example", areaOf(t, patch(0, 0, 2, 0, 0, 2)), 4)
	isInt(t, "Area of a square", areaOf(t, box(-3, -2, 0, 1)), 18)
	isInt(t, "Area of the whole ground", areaOf(t, box(-1<<20, -1<<20, 1<<20, 1<<20)), 1<<43)
	isInt(t, "Area of the least patch", areaOf(t, patch(5, 5, 6, 6, 5, 6)), 1)
	for _, p := range some(t, 100, 2, 9, 100, 1<<20) {
		isInt(t, "Area", areaOf(t, p), slowArea(p))
	}
}

func TestSplit(t *testing.T) {
	square := on(box(0, 0, 2, 2), 4, 9)
	first, second := split(t, square, 0, 2)
	isPatch(t, "the first part", first, on(patch(0, 0, 2, 0, 2, 2), 4, 9))
	isPatch(t, "the second part", second, on(patch(2, 2, 0, 2, 0, 0), 4, 9))
	first, second = split(t, square, 1, 3)
	isPatch(t, "the first part", first, on(patch(2, 0, 2, 2, 0, 2), 4, 9))
	isPatch(t, "the second part", second, on(patch(0, 2, 0, 0, 2, 0), 4, 9))
	for _, p := range some(t, 30, 9, 100, 1<<20) {
		n := len(p.Corners)
		for i := -2; i < n+2; i++ {
			for k := -2; k < n+2; k++ {
				first, second, e := foot.Split(p, i, k)
				switch {
				case i < 0 || k < 0 || i >= n || k >= n:
					isCode(t, "Split at a corner that is none", e, api.ErrArg)
				case k < i+2 || i == 0 && k == n-1:
					isCode(t, "Split along a side", e, api.ErrOrder)
				default:
					isCode(t, "Split", e, api.OK)
					isPatch(t, "the first part", first, foot.Patch{Owner: p.Owner, Days: p.Days, Corners: p.Corners[i : k+1]})
					isPatch(t, "the second part", second, foot.Patch{Owner: p.Owner, Days: p.Days, Corners: append(slices.Clone(p.Corners[k:]), p.Corners[:i+1]...)})
					isInt(t, "Area of both parts", areaOf(t, first)+areaOf(t, second), areaOf(t, p))
					continue
				}
				isTrue(t, "Split has zero values with an error", isZeroPatch(first) && isZeroPatch(second))
			}
		}
	}
}

func TestSplitErrors(t *testing.T) {
	for _, c := range patchCases() {
		for _, at := range [][2]int{{0, 2}, {-1, 0}, {0, 1}, {math.MinInt, math.MaxInt}, {math.MaxInt, math.MinInt}, {math.MaxInt, math.MaxInt}, {0, math.MaxInt}, {math.MinInt, 0}, {99, 100}} {
			first, second, e := foot.Split(c.p, at[0], at[1])
			want, n := c.want, len(c.p.Corners)
			switch {
			case want != api.OK:
			case at[0] < 0 || at[0] >= n || at[1] < 0 || at[1] >= n:
				want = api.ErrArg
			case at[1] < at[0]+2 || n == 3:
				want = api.ErrOrder
			}
			isCode(t, "Split of "+c.what, e, want)
			isTrue(t, "Split has zero values with "+c.what, e == api.OK || isZeroPatch(first) && isZeroPatch(second))
		}
	}
}

func TestCover(t *testing.T) {
	for _, c := range []struct {
		p    foot.Patch
		x, y int
		want string
	}{
		{patch(0, 0, 2, 0, 0, 2), 0, 0, "1"},
		{patch(0, 0, 2, 0, 0, 2), 1, 0, "1/2"},
		{patch(0, 0, 2, 0, 0, 2), 0, 1, "1/2"},
		{patch(0, 0, 2, 0, 0, 2), 1, 1, "0"},
		{patch(0, 0, 2, 0, 0, 2), -1, 0, "0"},
		{patch(0, 0, 2, 0, 0, 2), 0, -1, "0"},
		{patch(0, 0, 2, 0, 0, 2), 1 << 20, -1 << 20, "0"},
		{patch(0, 0, 3, 0, 0, 1), 0, 0, "5/6"},
		{patch(0, 0, 3, 0, 0, 1), 1, 0, "1/2"},
		{patch(0, 0, 3, 0, 0, 1), 2, 0, "1/6"},
		{patch(0, 0, 1, 0, 0, 1), 0, 0, "1/2"},
		{patch(-5, -1, 5, 0, -4, 1), 0, 0, "1/2"},
		{patch(-5, -1, 5, 0, -4, 1), 0, -1, "9/20"},
		{patch(-5, -1, 5, 0, -4, 1), 4, 0, "1/18"},
		{patch(-1, 0, 1, -2, 3, 0, 1, 2), 0, 0, "1"},
		{patch(-1, 0, 1, -1, 3, 0, 1, 1), 0, 0, "3/4"},
		{box(-1<<20, -1<<20, 1<<20, 1<<20), 1<<20 - 1, 1<<20 - 1, "1"},
		{box(-1<<20, -1<<20, 1<<20, 1<<20), 1 << 20, 0, "0"},
		{box(-1<<20, -1<<20, 1<<20, 1<<20), 0, 1 << 20, "0"},
		{box(-1<<20, -1<<20, 1<<20, 1<<20), -1 << 20, -1 << 20, "1"},
		{patch(-1<<20, -1<<20, 1<<20, 1<<20-1, 1<<20, 1<<20), -1 << 20, -1 << 20, "1/4194304"},
	} {
		got := right[num.Frac](t, "Cover")(foot.Cover(c.p, c.x, c.y))
		isText(t, "Cover", got.Text(), c.want)
	}
}

func TestCoverModel(t *testing.T) {
	r := seeded()
	for _, p := range some(t, 60, 1, 3, 6, 40, 1<<20) {
		for range 30 {
			near := p.Corners[r.Intn(len(p.Corners))]
			other := p.Corners[r.Intn(len(p.Corners))]
			part := r.Intn(1001)
			// A cell near to a corner, or to a way between two of them.
			x := near.X + (other.X-near.X)*part/1000 + r.Intn(4) - 2
			y := near.Y + (other.Y-near.Y)*part/1000 + r.Intn(4) - 2
			x, y = min(max(x, -1<<20), 1<<20), min(max(y, -1<<20), 1<<20)
			got := cover(t, p, x, y)
			isRat(t, "Cover", got, slowCover(p, x, y))
			isTrue(t, "Cover is from 0 to 1", got.Sign() >= 0 && got.Cmp(ratOf(1)) <= 0)
		}
	}
}

func TestCoverOfAllCells(t *testing.T) {
	for _, p := range some(t, 12, 1, 2, 5, 12)[5:] {
		sum := new(big.Rat)
		x0, y0, x1, y1 := reach(p)
		for x := x0 - 1; x <= x1; x++ {
			for y := y0 - 1; y <= y1; y++ {
				sum = ratAdd(sum, cover(t, p, x, y))
			}
		}
		isRat(t, "all Covers together", sum, big.NewRat(int64(areaOf(t, p)), 2))
	}
}

func TestCoverOfParts(t *testing.T) {
	r := seeded()
	for _, p := range some(t, 40, 4, 20, 1<<20) {
		n := len(p.Corners)
		if n < 4 {
			continue
		}
		i := r.Intn(n - 2)
		k := i + 2 + r.Intn(n-i-2)
		if i == 0 && k == n-1 {
			k--
		}
		first, second := split(t, p, i, k)
		var l []cell
		for range 12 {
			c := p.Corners[r.Intn(n)]
			at := cell{X: min(max(c.X+r.Intn(5)-2, -1<<20), 1<<20), Y: min(max(c.Y+r.Intn(5)-2, -1<<20), 1<<20), Weight: r.Intn(9)}
			l = append(l, at)
			isRat(t, "Cover of both parts", ratAdd(cover(t, first, at.X, at.Y), cover(t, second, at.X, at.Y)), cover(t, p, at.X, at.Y))
		}
		isRat(t, "Share of both parts", ratAdd(share(t, l, first), share(t, l, second)), share(t, l, p))
	}
}

func TestCoverErrors(t *testing.T) {
	is := func(what string, p foot.Patch, x, y int, want api.Errno) {
		t.Helper()
		got, e := foot.Cover(p, x, y)
		isCode(t, "Cover with "+what, e, want)
		isTrue(t, "Cover has a zero value with "+what, e == api.OK || got.Zero())
	}
	for _, c := range patchCases() {
		argument := c.want
		if argument == api.OK {
			argument = api.ErrArg
		}
		is(c.what, c.p, 0, 0, c.want)
		for _, at := range farPlaces(1 << 20) {
			is(c.what+" and a cell that is far", c.p, at.X, at.Y, argument)
		}
	}
	for _, x := range []int{-1 << 20, 1 << 20} {
		for _, y := range []int{-1 << 20, 1 << 20} {
			is("a corner of the ground", patch(0, 0, 2, 0, 0, 2), x, y, api.OK)
		}
	}
}

func TestShare(t *testing.T) {
	triangle := patch(0, 0, 2, 0, 0, 2)
	for _, c := range []struct {
		l    []cell
		p    foot.Patch
		want string
	}{
		{[]cell{{0, 0, 4}, {1, 0, 3}, {1, 1, 2}}, triangle, "11/2"},
		{nil, triangle, "0"},
		{[]cell{{0, 0, 0}, {1, 0, 0}}, triangle, "0"},
		{[]cell{{1, 0, 3}, {1, 0, 3}, {1, 0, 1}}, triangle, "7/2"},
		{[]cell{{1, 0, 3}}, on(triangle, 100, 100), "3/2"}, // whatever the days
		{[]cell{{-1 << 20, -1 << 20, 1 << 20}, {1 << 20, 1 << 20, 1 << 20}}, box(-1<<20, -1<<20, 1<<20, 1<<20), "1048576"},
		{slices.Repeat([]cell{{0, 0, 1 << 20}}, 600), patch(0, 0, 3, 0, 0, 1), "524288000"},
	} {
		got := right[num.Frac](t, "Share")(foot.Share(c.l, c.p))
		isText(t, "Share", got.Text(), c.want)
	}
}

func TestShareModel(t *testing.T) {
	r := seeded()
	for _, p := range some(t, 20, 2, 5, 40)[5:] {
		a, b := randomCells(r, r.Intn(15), 5, 1<<15), randomCells(r, r.Intn(15), 5, 1<<15)
		isRat(t, "Share", share(t, a, p), slowShare(a, p))
		isRat(t, "Share of Together", share(t, together(t, a, b), p), ratAdd(share(t, a, p), share(t, b, p)))
		x, y := r.Intn(1000)-500, r.Intn(1000)-500
		c := slices.Clone(a)
		for i := range c {
			c[i].X += x
			c[i].Y += y
		}
		isRat(t, "Share of what is moved", share(t, c, moved(p, x, y)), share(t, a, p))
		isRat(t, "Share of a patch with all cells", share(t, a, patch(-6, -6, 0, -7, 6, -6, 9, 0, 6, 6, -6, 6)), ratOf(total(t, a)))
	}
}

// The shares of pieces of ground that have it all are the whole of a footprint.
func TestSharesAreWhole(t *testing.T) {
	ground := box(-1<<20, -1<<20, 1<<20, 1<<20)
	north, south := split(t, ground, 1, 3)
	for _, p := range plans()[:8] {
		m, beyond := mapOf(t, p)
		for quarter := range 4 {
			l := placed(t, m, point(-3, 5), quarter)
			sum := ratOf(beyond)
			for _, x := range shares(t, l, []foot.Patch{north, on(ground, 1, 2), south}, 3) {
				sum = ratAdd(sum, rat(x))
			}
			isRat(t, "all Shares with what is left", sum, ratOf(p.Whole))
		}
	}
}

func TestShareErrors(t *testing.T) {
	for _, c := range cellsCases() {
		for _, d := range patchCases() {
			want := c.want
			if want == api.OK {
				want = d.want
			}
			if want == api.OK && len(c.l) > 99 {
				continue
			}
			x, e := foot.Share(c.l, d.p)
			isCode(t, "Share with cells of "+c.what+", and a patch of "+d.what, e, want)
			isTrue(t, "Share has a zero value", e == api.OK || x.Zero())
			l, e := foot.Shares(c.l, []foot.Patch{d.p}, 3)
			isCode(t, "Shares with cells of "+c.what+", and a patch of "+d.what, e, want)
			isTrue(t, "Shares has a zero value", e == api.OK || len(l) == 0)
		}
	}
}

func TestShares(t *testing.T) {
	l := []cell{{0, 0, 4}, {1, 0, 3}, {1, 1, 2}}
	triangle, square := patch(0, 0, 2, 0, 0, 2), on(box(0, 0, 2, 2), 4, 9)
	for _, c := range []struct {
		day  int
		want []string
	}{
		{0, []string{"0", "0", "0"}},
		{1, []string{"11/2", "0", "0"}},
		{3, []string{"11/2", "0", "0"}},
		{4, []string{"11/2", "9", "0"}},
		{5, []string{"11/2", "9", "0"}},
		{6, []string{"0", "9", "0"}},
		{9, []string{"0", "9", "0"}},
		{10, []string{"0", "0", "0"}},
		{math.MaxInt, []string{"0", "0", "9"}},
		{math.MinInt, []string{"0", "0", "0"}},
	} {
		var got []string
		for _, x := range shares(t, l, []foot.Patch{triangle, square, on(square, math.MaxInt, math.MaxInt)}, c.day) {
			got = append(got, x.Text())
		}
		isList(t, "Shares", got, c.want)
	}
	isInt(t, "how many Shares no patches have", len(shares(t, l, nil, 1)), 0)
	for i, x := range shares(t, nil, slices.Repeat([]foot.Patch{triangle}, 12), 1) {
		isTrue(t, "no cells have a Share of 0", i < 12 && x.Zero())
	}
}

func TestSharesModel(t *testing.T) {
	r := seeded()
	for range 40 {
		l := randomCells(r, r.Intn(12), 5, 1<<15)
		patches := make([]foot.Patch, r.Intn(13))
		for i := range patches {
			patches[i] = randomPatch(r, 6)
		}
		for day := -1; day < 15; day += 1 + r.Intn(4) {
			got := shares(t, l, patches, day)
			isInt(t, "how many Shares there are", len(got), len(patches))
			for i, p := range patches {
				want := new(big.Rat)
				if p.Days.Lo <= day && day <= p.Days.Hi {
					want = share(t, l, p)
				}
				isRat(t, "Shares", rat(got[i]), want)
			}
			if len(patches) < 12 { // one that is not there changes nothing
				more := shares(t, l, append(slices.Clone(patches), on(box(-9, -9, 9, 9), day+1, day+9)), day)
				for i := range got {
					isText(t, "Shares beside a patch that is not there", more[i].Text(), got[i].Text())
				}
				isTrue(t, "the Share of a patch that is not there", more[len(patches)].Zero())
			}
		}
	}
}

// listCase is patches with their error.
type listCase struct {
	what string
	l    []foot.Patch
	want api.Errno
}

func listCases() []listCase {
	good, late := box(0, 0, 2, 2), on(box(0, 0, 2, 2), 100, 200)
	cases := []listCase{
		{"12 patches", slices.Repeat([]foot.Patch{good}, 12), api.OK},
		{"13 patches", slices.Repeat([]foot.Patch{good}, 13), api.ErrSize},
		{"13 patches that are none", slices.Repeat([]foot.Patch{reversed(good)}, 13), api.ErrSize},
		{"13 patches that are not there", slices.Repeat([]foot.Patch{late}, 13), api.ErrSize},
		{"a patch beyond the ground, then a small one", []foot.Patch{good, patch(0, 0, 1<<21, 0, 0, 2), patch()}, api.ErrArg},
		{"a small patch, then one beyond the ground", []foot.Patch{good, patch(), patch(0, 0, 1<<21, 0, 0, 2)}, api.ErrSize},
		{"a clockwise patch, then a small one", []foot.Patch{reversed(good), patch()}, api.ErrOrder},
		{"a clockwise patch that is not there", []foot.Patch{good, reversed(late)}, api.ErrOrder},
	}
	for _, c := range patchCases() {
		cases = append(cases,
			listCase{"a first patch of " + c.what, []foot.Patch{c.p, good}, c.want},
			listCase{"a last patch of " + c.what, []foot.Patch{good, late, c.p}, c.want})
	}
	return cases
}

func TestSharesErrors(t *testing.T) {
	is := func(what string, l []cell, patches []foot.Patch, want api.Errno) {
		t.Helper()
		got, e := foot.Shares(l, patches, 3)
		isCode(t, "Shares with "+what, e, want)
		isTrue(t, "Shares has a zero value with "+what, e == api.OK || len(got) == 0)
	}
	for _, c := range listCases() {
		is(c.what, []cell{{1, 1, 1}}, c.l, c.want)
		is(c.what+" and too many cells", make([]cell, 601), c.l, api.ErrSize)
		is(c.what+" and cells that are none", []cell{{1, 1, -1}}, c.l, api.ErrArg)
	}
}

func TestOwner(t *testing.T) {
	triangle, square := patch(0, 0, 2, 0, 0, 2), on(box(0, 0, 2, 2), 4, 9)
	half := on(patch(1, 0, 2, 1, 1, 1), 1, 9)
	for _, c := range []struct {
		l         []foot.Patch
		day, x, y int
		want      int
		e         api.Errno
	}{
		{[]foot.Patch{triangle, square}, 4, 0, 0, 0, api.OK},
		{[]foot.Patch{square, triangle}, 4, 0, 0, 0, api.OK},
		{[]foot.Patch{triangle, square}, 4, 1, 0, 1, api.OK},
		{[]foot.Patch{square, triangle}, 4, 1, 0, 0, api.OK},
		{[]foot.Patch{triangle, square}, 3, 1, 0, 0, api.OK},
		{[]foot.Patch{square, triangle}, 3, 1, 0, 1, api.OK},
		{[]foot.Patch{triangle, square}, 6, 0, 0, 1, api.OK},
		{[]foot.Patch{triangle, half}, 5, 1, 0, 0, api.OK},
		{[]foot.Patch{half, triangle}, 5, 1, 0, 0, api.OK},
		{[]foot.Patch{half, triangle, square, on(square, 1, 9)}, 5, 1, 0, 2, api.OK},
		{[]foot.Patch{half, triangle, square, on(square, 1, 9)}, 2, 1, 0, 3, api.OK},
		{[]foot.Patch{square, triangle, half}, 2, 1, 0, 1, api.OK},
		{[]foot.Patch{square, square, square}, 9, 1, 1, 0, api.OK},
		{[]foot.Patch{triangle, square}, 4, 5, 5, 0, api.ErrOutside},
		{[]foot.Patch{triangle, square}, 4, 2, 0, 0, api.ErrOutside},
		{[]foot.Patch{triangle, square}, 0, 0, 0, 0, api.ErrOutside},
		{[]foot.Patch{triangle, square}, 10, 0, 0, 0, api.ErrOutside},
		{[]foot.Patch{triangle, square}, 3, 1, 1, 0, api.ErrOutside},
		{[]foot.Patch{triangle, square}, math.MaxInt, 0, 0, 0, api.ErrOutside},
		{[]foot.Patch{triangle, square}, math.MinInt, 0, 0, 0, api.ErrOutside},
		{nil, 4, 0, 0, 0, api.ErrOutside},
		{[]foot.Patch{box(-1<<20, -1<<20, 1<<20, 1<<20)}, 4, -1 << 20, 1<<20 - 1, 0, api.OK},
		{[]foot.Patch{box(-1<<20, -1<<20, 1<<20, 1<<20)}, 4, 1 << 20, -1 << 20, 0, api.ErrOutside},
	} {
		got, e := foot.Owner(c.l, c.day, c.x, c.y)
		isCode(t, "Owner", e, c.e)
		isInt(t, "Owner", got, c.want)
	}
}

func TestOwnerModel(t *testing.T) {
	r := seeded()
	for range 300 {
		patches := make([]foot.Patch, r.Intn(13))
		for i := range patches {
			patches[i] = randomPatch(r, 1+r.Intn(4))
		}
		day, x, y := r.Intn(12), r.Intn(8)-4, r.Intn(8)-4
		want, most := 0, new(big.Rat)
		for i, p := range patches {
			if c := slowCover(p, x, y); p.Days.Lo <= day && day <= p.Days.Hi && c.Cmp(most) > 0 {
				want, most = i, c
			}
		}
		code := api.OK
		if most.Sign() == 0 {
			code = api.ErrOutside
		}
		got, e := foot.Owner(patches, day, x, y)
		isCode(t, "Owner", e, code)
		isInt(t, "Owner", got, want)
	}
}

func TestOwnerErrors(t *testing.T) {
	is := func(what string, l []foot.Patch, x, y int, want api.Errno) {
		t.Helper()
		got, e := foot.Owner(l, 3, x, y)
		isCode(t, "Owner with "+what, e, want)
		isTrue(t, "Owner has a zero value with "+what, e == api.OK || got == 0)
	}
	for _, c := range listCases() {
		argument := c.want
		if argument == api.OK {
			argument = api.ErrArg
		}
		is(c.what, c.l, 1, 1, c.want)
		for _, at := range farPlaces(1 << 20) {
			is(c.what+" and a cell that is far", c.l, at.X, at.Y, argument)
		}
	}
	is("no patches, and a cell that is far", nil, 1<<20+1, 0, api.ErrArg)
}

func TestPatchesKeepTheirArguments(t *testing.T) {
	mark := point(77, 77)
	corners, same := behind(t, []api.Point{{X: 0, Y: 0}, {X: 4, Y: 0}, {X: 5, Y: 2}, {X: 4, Y: 4}, {X: 0, Y: 4}}, mark)
	p := foot.Patch{Owner: 8, Corners: corners, Days: api.Range{Lo: 1, Hi: 2}}
	l, sameCells := behind(t, []cell{{4, 1, 6}, {0, 0, 1}, {4, 1, 2}}, cell{77, 77, 77})
	for range 2 { // twice, as nothing is kept
		for i := range 3 {
			first, second := split(t, p, i, i+2)
			isPatch(t, "the first part", first, foot.Patch{Owner: 8, Days: p.Days, Corners: corners[i : i+3]})
			scribble(first.Corners, mark)
			isPatch(t, "the second part", second, foot.Patch{Owner: 8, Days: p.Days, Corners: append(slices.Clone(corners[i+2:]), corners[:i+1]...)})
			scribble(second.Corners, mark)
			same()
		}
		isCode(t, "CheckPatch", foot.CheckPatch(p), api.OK)
		isInt(t, "Area", areaOf(t, p), 36)
		isRat(t, "Cover", cover(t, p, 4, 1), big.NewRat(3, 4))
		isRat(t, "Share", share(t, l, p), ratOf(7))
		patches := []foot.Patch{on(p, 5, 6), p, p}[:2]
		x := shares(t, l, patches, 2)
		isTrue(t, "Shares", x[0].Zero() && x[1].Same(num.Int(7)))
		scribble(x, num.Int(99))
		isInt(t, "Owner", right[int](t, "Owner")(foot.Owner(patches, 2, 4, 1)), 1)
		isPatch(t, "what is behind the patches", patches[:3][2], p)
	}
	same()
	sameCells()
}

// P1: no call panics, and an error comes alone.
func TestAnyPatch(t *testing.T) {
	r := seeded()
	any := func() foot.Patch {
		p := foot.Patch{Days: api.Range{Lo: extreme(r), Hi: extreme(r)}}
		for range r.Intn(5) {
			p.Corners = append(p.Corners, point(extreme(r), extreme(r)))
		}
		if r.Intn(2) == 0 {
			p = randomPatch(r, 5)
		}
		return p
	}
	for range 3000 {
		p, q := any(), any()
		n, e := foot.Area(p)
		isTrue(t, "an error of Area comes alone", e == api.OK || n == 0)
		first, second, e := foot.Split(p, extreme(r), extreme(r))
		isTrue(t, "an error of Split comes alone", e == api.OK || isZeroPatch(first) && isZeroPatch(second))
		x, e := foot.Cover(p, extreme(r), extreme(r))
		isTrue(t, "an error of Cover comes alone", e == api.OK || x.Zero())
		l := []cell{{extreme(r), extreme(r), extreme(r)}}
		x, e = foot.Share(l, p)
		isTrue(t, "an error of Share comes alone", e == api.OK || x.Zero())
		all, e := foot.Shares(l, []foot.Patch{p, q}, extreme(r))
		isTrue(t, "an error of Shares comes alone", e == api.OK || len(all) == 0)
		n, e = foot.Owner([]foot.Patch{p, q}, extreme(r), extreme(r), extreme(r))
		isTrue(t, "an error of Owner comes alone", e == api.OK || n == 0)
	}
}
