package sonic

import (
	"math"
	"math/big"
	"math/rand"
	"slices"
	"testing"

	"fluxmast/api"
	"fluxmast/num"
)

// P3.1 and P3.7: sectors.

func point(x, y int) api.Point {
	return api.Point{X: x, Y: y}
}

// clock is directions that go once around.
var clock = []api.Point{{X: 3}, {X: 3, Y: 1}, {X: 2, Y: 2}, {Y: 3}, {X: -1, Y: 3}, {X: -3, Y: 3}, {X: -3}, {X: -3, Y: -1}, {X: -1, Y: -1}, {Y: -3}, {X: 1, Y: -3}, {X: 1, Y: -1}}

func TestSector(t *testing.T) {
	three := []api.Point{{X: 1}, {Y: 1}, {X: -1, Y: -1}}
	for _, c := range []struct {
		l    []api.Point
		v    string
		want int
	}{
		{three, "-3 1 0", 1}, {three, "0 -2 0", 2}, {three, "1 0 9", 0}, {three, "5 4 0", 0}, {three, "0 7 0", 1}, {three, "-2 -2 0", 2}, {three, "9 -1 0", 2},
		{three, "1/1000000000000000000000000000000 1 0", 0}, {three, "-1/1000000000000000000000000000000 1 0", 1}, {three, "1 -1/1000000000000000000000000000000 0", 2},
		{[]api.Point{{X: -5, Y: 2}}, "1 0 0", 0}, {[]api.Point{{X: -5, Y: 2}}, "-5 2 0", 0}, {[]api.Point{{X: -5, Y: 2}}, "5 -2 0", 0},
		{[]api.Point{{X: 1}, {X: -1}}, "1 0 0", 0}, {[]api.Point{{X: 1}, {X: -1}}, "-1 0 0", 1}, {[]api.Point{{X: 1}, {X: -1}}, "0 -1 0", 1}, {[]api.Point{{X: 1}, {X: -1}}, "0 1 0", 0},
		// The first sector is greater than half a turn.
		{[]api.Point{{Y: 1}, {X: 1, Y: -1}}, "0 -1 0", 0}, {[]api.Point{{Y: 1}, {X: 1, Y: -1}}, "1 0 0", 1}, {[]api.Point{{Y: 1}, {X: 1, Y: -1}}, "1 -1 0", 1}, {[]api.Point{{Y: 1}, {X: 1, Y: -1}}, "1 -2 0", 0},
		{[]api.Point{{X: 1 << 20, Y: 1 << 20}, {X: -1 << 20, Y: -1 << 20}}, "1 1 0", 0}, {[]api.Point{{X: 1 << 20, Y: 1 << 20}, {X: -1 << 20, Y: -1 << 20}}, "-1 -1 0", 1},
		{[]api.Point{{X: 1 << 20, Y: 1}, {X: 1<<20 - 1, Y: 1}}, "1048575 1 0", 1}, {[]api.Point{{X: 1 << 20, Y: 1}, {X: 1<<20 - 1, Y: 1}}, "2097151 2 0", 0},
	} {
		got, e := Sector(c.l, vec(c.v))
		isCode(t, "Sector", e, api.OK)
		if got != c.want {
			t.Errorf("Sector of %v and %s: %d, want %d", c.l, c.v, got, c.want)
		}
	}
	for i, p := range clock {
		got, e := Sector(clock, Vec{whole(p.X), whole(p.Y), num.Frac{}})
		isCode(t, "Sector", e, api.OK)
		if got != i {
			t.Errorf("Sector of the direction %d: %d", i, got)
		}
	}
}

func TestSectorErrors(t *testing.T) {
	for _, c := range []struct {
		what string
		l    []api.Point
		want api.Errno
	}{
		{"12 directions", clock, api.OK},
		{"one direction", clock[4:5], api.OK},
		{"no list", nil, api.ErrSize},
		{"an empty list", []api.Point{}, api.ErrSize},
		{"13 directions", append(slices.Clone(clock), point(2, -1)), api.ErrSize},
		{"13 empty directions", make([]api.Point, 13), api.ErrSize},
		{"an empty direction", []api.Point{{}}, api.ErrArg},
		{"an empty second direction", []api.Point{{X: 1}, {}}, api.ErrArg},
		{"the greatest numbers", []api.Point{{X: 1 << 20, Y: -1 << 20}, {X: 1 << 20, Y: 1 << 20}}, api.OK},
		{"a great x", []api.Point{{X: 1<<20 + 1}}, api.ErrArg},
		{"a great y", []api.Point{{X: 1, Y: 1<<20 + 1}}, api.ErrArg},
		{"a great x below 0", []api.Point{{X: -1<<20 - 1, Y: 3}}, api.ErrArg},
		{"a great y below 0", []api.Point{{X: 1}, {Y: -1<<20 - 1}}, api.ErrArg},
		{"the least x", []api.Point{{X: math.MinInt, Y: 3}}, api.ErrArg},
		{"the least y", []api.Point{{X: 3, Y: math.MinInt}}, api.ErrArg},
		{"the same direction", []api.Point{{X: 1}, {X: 2}}, api.ErrOrder},
		{"a third one that is the second", []api.Point{{X: 1}, {X: -1, Y: 1}, {X: -2, Y: 2}}, api.ErrOrder},
		{"a third one that is the first", []api.Point{{X: 1}, {X: -1, Y: 1}, {X: 3}}, api.ErrOrder},
		{"clockwise", []api.Point{{X: 1}, {Y: -1}, {Y: 1}}, api.ErrOrder},
		{"beyond a whole turn", []api.Point{{Y: 1}, {X: -1}, {Y: -1}, {X: 1}, {X: 1, Y: 3}, {X: -1, Y: 3}}, api.ErrOrder},
		{"two that are opposite", []api.Point{{X: 1}, {X: -1}}, api.OK},
		{"angles nearly alike", []api.Point{{X: 1 << 20, Y: 1}, {X: 1<<20 - 1, Y: 1}}, api.OK},
		{"angles nearly alike, clockwise", []api.Point{{X: 1}, {X: 1<<20 - 1, Y: 1}, {X: 1 << 20, Y: 1}}, api.ErrOrder},
		{"an order ahead of an empty one", []api.Point{{X: 1}, {X: 1}, {}}, api.ErrOrder},
		{"an empty one ahead of an order", []api.Point{{X: 1}, {}, {X: 1}}, api.ErrArg},
		{"a great one out of order", []api.Point{{X: 1}, {X: 1 << 21}}, api.ErrArg},
	} {
		for _, v := range []string{sample, noVec, "0 0 3"} {
			want := c.want
			if v != sample && want == api.OK {
				want = api.ErrZero
			}
			got, e := Sector(c.l, vec(v))
			isCode(t, "Sector with "+c.what, e, want)
			if e != api.OK && got != 0 {
				t.Errorf("Sector with %s: %d with an error", c.what, got)
			}
		}
		fits, e := Fits(c.l, square)
		isCode(t, "Fits with "+c.what, e, c.want)
		if e != api.OK && len(fits) > 0 {
			t.Errorf("Fits with %s: a list with an error", c.what)
		}
		_, e = Fits(c.l, make([]Vec, 49))
		if c.want == api.OK {
			isCode(t, "Fits with "+c.what+" of 49 winds", e, api.ErrSize)
		} else {
			isCode(t, "Fits with "+c.what+" of 49 winds", e, c.want)
		}
	}
}

// angle is a number from 0 to below 4 that grows with the angle of (x, y) to the x axis: how far it is along a square that stands on a corner.
func angle(x, y *big.Rat) *big.Rat {
	length := add(new(big.Rat).Abs(x), new(big.Rat).Abs(y))
	part := quo(y, length)
	switch {
	case x.Sign() >= 0 && y.Sign() >= 0:
		return part
	case x.Sign() < 0:
		return sub(big.NewRat(2, 1), part)
	}
	return add(big.NewRat(4, 1), part)
}

func angleOf(p api.Point) *big.Rat {
	return angle(big.NewRat(int64(p.X), 1), big.NewRat(int64(p.Y), 1))
}

// inTurn reports whether the angles from the first one on grow, and stay below a whole turn.
func inTurn(l []api.Point) bool {
	last := new(big.Rat)
	for _, p := range l[1:] {
		from := sub(angleOf(p), angleOf(l[0]))
		if from.Sign() < 0 {
			from = add(from, big.NewRat(4, 1))
		}
		if from.Cmp(last) <= 0 {
			return false
		}
		last = from
	}
	return true
}

// slowSector is the direction with the greatest angle that is not above that of the wind, or, without one, with the greatest angle of all.
func slowSector(l []api.Point, v Vec) int {
	at, greatest := -1, 0
	for i, p := range l {
		if angleOf(p).Cmp(angle(rat(v[0]), rat(v[1]))) <= 0 && (at < 0 || angleOf(p).Cmp(angleOf(l[at])) > 0) {
			at = i
		}
		if angleOf(p).Cmp(angleOf(l[greatest])) > 0 {
			greatest = i
		}
	}
	if at < 0 {
		return greatest
	}
	return at
}

// randomSectors is some of the directions of a clock, beginning anywhere, of unlike lengths.
func randomSectors(r *rand.Rand) []api.Point {
	var l []api.Point
	begin := r.Intn(len(clock))
	for i := range clock {
		p, f := clock[(begin+i)%len(clock)], 1+r.Intn(9)
		if r.Intn(2) == 0 {
			l = append(l, point(p.X*f, p.Y*f))
		}
	}
	if len(l) == 0 {
		return clock[begin:]
	}
	return l
}

// randomWind is a wind with a horizontal part, at times in a direction of a clock.
func randomWind(r *rand.Rand) Vec {
	p := clock[r.Intn(len(clock))]
	if r.Intn(3) == 0 {
		f := ratio(1+r.Int63n(50), 1+r.Int63n(50))
		return Vec{f.Mul(whole(p.X)), f.Mul(whole(p.Y)), randomFrac(r)}
	}
	for {
		if v := randomVec(r); !v[0].Zero() || !v[1].Zero() {
			return v
		}
	}
}

func TestSectorModel(t *testing.T) {
	r := seeded()
	for range 500 {
		l, v := randomSectors(r), randomWind(r)
		want := slowSector(l, v)
		got, e := Sector(l, v)
		isCode(t, "Sector", e, api.OK)
		if got != want {
			t.Fatalf("Sector of %v and %s: %d, want %d", l, text(v), got, want)
		}
		scale := ratio(1+r.Int63n(1<<40), 1+r.Int63n(1000))
		if longer, e := Sector(l, times(v, scale)); e != api.OK || longer != got {
			t.Fatalf("Sector of %v and %s times %s: %d, want %d", l, text(v), scale.Text(), longer, got)
		}
		for moved := range l {
			around := append(slices.Clone(l[moved:]), l[:moved]...)
			if other, e := Sector(around, v); e != api.OK || (other+moved)%len(l) != got {
				t.Fatalf("Sector of %v, moved by %d, and %s: %d, want %d", l, moved, text(v), other, got)
			}
		}
	}
}

func TestSectorOrder(t *testing.T) {
	r := seeded()
	codes := map[api.Errno]int{}
	for range 2000 {
		l := make([]api.Point, 1+r.Intn(4))
		for i := range l {
			for l[i] == (api.Point{}) {
				l[i] = point(r.Intn(5)-2, r.Intn(5)-2)
			}
		}
		want := api.ErrOrder
		if inTurn(l) {
			want = api.OK
		}
		_, e := Sector(l, vec(sample))
		isCode(t, "Sector", e, want)
		codes[e]++
	}
	if codes[api.OK] < 300 || codes[api.ErrOrder] < 300 {
		t.Error("too few cases:", codes)
	}
}

func TestFits(t *testing.T) {
	halves := []api.Point{{X: 1}, {X: -1}}
	winds := vecs("0 1 1", "1 1 2", "0 2 1", "1 2 2", "1 -1 0", "2 -3 0", "0 0 9")
	for _, c := range []struct {
		l     []api.Point
		winds []Vec
		want  string
	}{
		{halves, winds, "1 1 0, (0 0 0)"},
		{[]api.Point{{X: -1}, {X: 1}}, winds, "(0 0 0), 1 1 0"},
		{halves, nil, "(0 0 0), (0 0 0)"},
		{halves, vecs("0 0 1", "0 0 2", "0 0 3"), "(0 0 0), (0 0 0)"},
		{halves, vecs("1 1 1", "2 2 2", "3 3 3", "4 4 5"), "(0 0 0), (0 0 0)"}, // no plane is the only one
		{halves, vecs("1 0 3", "0 1 3", "-1 0 4", "-1 -1 5", "0 -1 4", "2 1 3"), "3 0 0, 3 -1 -1"},
		{[]api.Point{{X: 5, Y: 1}}, append(slices.Clone(square), vec("0 0 100"), vec("2 0 3")), "1 1 0"},
	} {
		got, e := Fits(c.l, c.winds)
		isCode(t, "Fits", e, api.OK)
		isText(t, "Fits", fitsText(got), c.want)
	}
}

func TestFitsModel(t *testing.T) {
	r := seeded()
	known := 0
	for range 40 {
		l, winds := randomSectors(r), randomVecs(r, r.Intn(20))
		all := make([][]Vec, len(l))
		var moving []Vec
		for _, v := range winds {
			if i, e := Sector(l, v); e == api.OK {
				all[i] = append(all[i], v)
				moving = append(moving, v)
			}
		}
		want := make([]Fitted, len(l))
		for i := range want {
			if p, e := Fit(all[i]); e == api.OK {
				want[i] = Fitted{p, true}
				known++
			}
		}
		got, e := Fits(l, winds)
		isCode(t, "Fits", e, api.OK)
		isText(t, "Fits", fitsText(got), fitsText(want))
		moved := r.Intn(len(l))
		got, _ = Fits(append(slices.Clone(l[moved:]), l[:moved]...), winds)
		isText(t, "Fits of moved sectors", fitsText(got), fitsText(append(want[moved:], want[:moved]...)))

		one, e := Fits(l[:1], winds)
		isCode(t, "Fits", e, api.OK)
		p, e := Fit(moving)
		isText(t, "Fits of one sector", fitsText(one), fitsText([]Fitted{{p, e == api.OK}}))
	}
	if known < 30 {
		t.Error("too few planes:", known)
	}
}

func TestWithinStops(t *testing.T) {
	all, _ := directions([]api.Point{{X: 1}, {X: -1}})
	var seen []Vec
	for v := range within(all, 0, vecs("0 -1 1", "0 1 2", "0 0 3", "1 0 4", "0 2 5")) {
		seen = append(seen, v)
		if len(seen) == 2 {
			break
		}
	}
	if len(seen) != 2 || text(seen[0]) != "0 1 2" || text(seen[1]) != "1 0 4" {
		t.Error("the first winds of a sector:", seen)
	}
}

func TestSectorsStay(t *testing.T) {
	l, same := behind(t, clock, point(7, 7), samePoint)
	_, _ = Sector(l, vec(sample))
	fits, _ := Fits(l, square)
	fits[0].Known = true
	same()
	fits, _ = Fits(l, square)
	isText(t, "Fits", fitsText(fits[:1]), "(0 0 0)")
}

func TestExtremeDirections(t *testing.T) {
	r := seeded()
	for range 2000 {
		p := point(extreme(r), extreme(r))
		want := api.OK
		if p == (api.Point{}) || max(p.X, p.Y) > most || min(p.X, p.Y) < -most {
			want = api.ErrArg
		}
		_, e := Sector([]api.Point{p}, vec(sample))
		isCode(t, "Sector", e, want)
	}
}
