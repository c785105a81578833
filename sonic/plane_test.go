package sonic

import (
	"math/big"
	"slices"
	"testing"

	"fluxmast/api"
	"fluxmast/num"
)

// P3.1 and P3.6: planes.

var square = vecs("0 0 1", "1 0 2", "0 1 1", "1 1 2")

func TestMean(t *testing.T) {
	for _, c := range []struct {
		l    []Vec
		want string
		code api.Errno
	}{
		{square, "1/2 1/2 3/2", api.OK},
		{vecs(sample), sample, api.OK},
		{vecs("1 2 3", "-1 -2 -3"), noVec, api.OK},
		{slices.Repeat(vecs(sample), 48), sample, api.OK},
		{vecs("1/2 1/3 1/5", "1/7 1/11 1/13", "0 0 0"), "3/14 14/99 6/65", api.OK},
		{nil, noVec, api.ErrNone},
		{[]Vec{}, noVec, api.ErrNone},
		{slices.Repeat(vecs(sample), 49), noVec, api.ErrSize},
	} {
		got, e := Mean(c.l)
		isCode(t, "Mean", e, c.code)
		isText(t, "Mean", text(got), c.want)
	}
}

func TestFit(t *testing.T) {
	for _, c := range []struct {
		what string
		l    []Vec
		want string
		code api.Errno
	}{
		{"a square", square, "1 1 0", api.OK},
		{"three winds", vecs("0 0 1/2", "1 0 0", "0 1 0"), "1/2 -1/2 -1/2", api.OK},
		{"a bent square", vecs("1 1 1", "-1 -1 1", "1 -1 -1", "-1 1 -1"), "0 0 0", api.OK},
		{"a peak", vecs("0 0 5", "1 0 0", "-1 0 0", "0 1 0", "0 -1 0"), "1 0 0", api.OK},
		{"48 winds", slices.Repeat(vecs("0 0 1", "1 0 2", "0 1 1", "1 1 2"), 12), "1 1 0", api.OK},
		{"no winds", nil, noVec, api.ErrNone},
		{"an empty list", []Vec{}, noVec, api.ErrNone},
		{"two winds", square[:2], noVec, api.ErrNone},
		{"two equal winds", slices.Repeat(vecs(sample), 2), noVec, api.ErrNone},
		{"a line", vecs("0 0 1", "1 1 2", "2 2 3"), noVec, api.ErrSingular},
		{"a line aside", vecs("1/2 5 1", "1 5 2", "-2/3 5 9", "4 5 0"), noVec, api.ErrSingular},
		{"one place", vecs("1 2 3", "1 2 4", "1 2 5"), noVec, api.ErrSingular},
		{"48 equal winds", slices.Repeat(vecs(sample), 48), noVec, api.ErrSingular},
		{"49 winds", slices.Repeat(vecs(sample), 49), noVec, api.ErrSize},
		{"64 winds", slices.Repeat(square, 16), noVec, api.ErrSize},
	} {
		got, e := Fit(c.l)
		isCode(t, "Fit of "+c.what, e, c.code)
		isText(t, "Fit of "+c.what, planeText(got), c.want)
	}
}

func TestRest(t *testing.T) {
	p := Plane{ratio(1, 2), ratio(-1, 3), num.Int(2)}
	for _, c := range []struct {
		l    []Vec
		want string
		code api.Errno
	}{
		{vecs("0 0 0", "3 0 0", "0 1/4 1", "1 1 1"), "-1/2 1/2 0 -7/6", api.OK},
		{slices.Repeat(vecs("0 0 1/2"), 48), fracsText(make([]num.Frac, 48)), api.OK},
		{nil, "", api.OK},
		{[]Vec{}, "", api.OK},
		{make([]Vec, 49), "", api.ErrSize},
	} {
		got, e := Rest(p, c.l)
		isCode(t, "Rest", e, c.code)
		isText(t, "Rest", fracsText(got), c.want)
	}
	got, _ := Rest(Plane{}, square)
	isText(t, "Rest of no plane", fracsText(got), "1 2 1 2")
}

func TestLevel(t *testing.T) {
	p := Plane{num.Int(1), num.Int(1), num.Frac{}}
	isText(t, "Level", text(Level(p, vec("2 5 7"))), "2 5 4")
	p = Plane{ratio(1, 2), ratio(-1, 3), num.Int(2)}
	isText(t, "Level", text(Level(p, vec("1 1 1"))), "1 1 -7/6")
	isText(t, "Level", text(Level(Plane{}, vec(sample))), sample)
	isText(t, "Level", text(Level(p, Vec{})), "0 0 -1/2")
}

// leftOver is the sum of the squares of Rest.
func leftOver(t testing.TB, p Plane, l []Vec) *big.Rat {
	t.Helper()
	rest, e := Rest(p, l)
	isCode(t, "Rest", e, api.OK)
	sum := new(big.Rat)
	for i, x := range rest {
		below := add(rat(p.B0), add(mul(rat(p.B1), rat(l[i][0])), mul(rat(p.B2), rat(l[i][1]))))
		isRat(t, "Rest", x, sub(rat(l[i][2]), below))
		sum = add(sum, mul(rat(x), rat(x)))
	}
	return sum
}

// onLine reports whether all winds have their horizontal parts on one line, or in one place.
func onLine(l []Vec) bool {
	for _, a := range l {
		for _, b := range l {
			for _, c := range l {
				area := sub(mul(sub(rat(b[0]), rat(a[0])), sub(rat(c[1]), rat(a[1]))), mul(sub(rat(c[0]), rat(a[0])), sub(rat(b[1]), rat(a[1]))))
				if area.Sign() != 0 {
					return false
				}
			}
		}
	}
	return true
}

func TestLeastPlane(t *testing.T) {
	r := seeded()
	fitted := 0
	for range 60 {
		l := randomVecs(r, 3+r.Intn(6))
		p, e := Fit(l)
		if onLine(l) {
			isCode(t, "Fit", e, api.ErrSingular)
			continue
		}
		fitted++
		isCode(t, "Fit", e, api.OK)
		least := leftOver(t, p, l)
		for range 5 {
			other := Plane{p.B0.Add(randomFrac(r)), p.B1.Add(randomFrac(r)), p.B2.Add(randomFrac(r))}
			if leftOver(t, other, l).Cmp(least) < 0 {
				t.Errorf("Fit: %s leaves more than %s", planeText(p), planeText(other))
			}
		}
		isBalanced(t, p, l)
	}
	if fitted < 30 {
		t.Error("too few planes:", fitted)
	}
}

// isBalanced tests that the rest of a plane has the sum 0, also times x and times y, and that it leaves no mean wind.
func isBalanced(t testing.TB, p Plane, l []Vec) {
	t.Helper()
	rest, _ := Rest(p, l)
	sums := [3]num.Frac{}
	level := make([]Vec, len(l))
	for i, x := range rest {
		sums[0] = sums[0].Add(x)
		sums[1] = sums[1].Add(x.Mul(l[i][0]))
		sums[2] = sums[2].Add(x.Mul(l[i][1]))
		level[i] = Level(p, l[i])
		if !level[i][0].Same(l[i][0]) || !level[i][1].Same(l[i][1]) {
			t.Error("Level: another horizontal wind")
		}
	}
	isText(t, "sums of Rest", text(sums), noVec)
	mean, e := Mean(level)
	isCode(t, "Mean", e, api.OK)
	isText(t, "mean vertical wind", mean[2].Text(), "0")
}

func TestPlaneOfTurnedWinds(t *testing.T) {
	r := seeded()
	for range 60 {
		l := randomVecs(r, 3+r.Intn(5))
		around := Turn{A: r.Intn(41) - 20, D: 1 + r.Intn(20)}
		turned := make([]Vec, len(l))
		for i, v := range l {
			turned[i], _ = Turned(around, v)
		}
		p, e := Fit(l)
		q, f := Fit(turned)
		isCode(t, "Fit of turned winds", f, e)
		if e != api.OK {
			continue
		}
		before, _ := Rest(p, l)
		after, _ := Rest(q, turned)
		isText(t, "Rest of turned winds", fracsText(after), fracsText(before))
		isText(t, "sum of squares", leftOver(t, q, turned).RatString(), leftOver(t, p, l).RatString())
	}
}

func TestWindsStay(t *testing.T) {
	l, same := behind(t, square, vec("7 7 7"), sameVec)
	_, _ = Mean(l)
	p, _ := Fit(l)
	rest, _ := Rest(p, l)
	rest[0] = num.Int(9)
	_, _ = Fits([]api.Point{{X: 1}}, l)
	same()
	rest, _ = Rest(p, l)
	isText(t, "Rest", fracsText(rest), "0 0 0 0")
}
