package eddy

import (
	"math"
	"math/rand"
	"testing"

	"fluxmast/api"
	"fluxmast/num"
)

// P5.1 and P5.6: quality.

// values is the tests with fractions of a text: Steady, Developed, Skew.
func values(text string, rest, missing int) Tests {
	l := fracs(text)
	return Tests{Steady: l[0], Developed: l[1], Skew: l[2], Rest: rest, Missing: missing}
}

func limits(text string, rest, missing int) Limits {
	return Limits(values(text, rest, missing))
}

func TestJudge(t *testing.T) {
	best, usable := limits("1/4 1/3 1/2", 3, 1), limits("1 1 2", 5, 4)
	for _, c := range []struct {
		what    string
		t       Tests
		class   int
		reasons []int
	}{
		{"zeros", Tests{}, 0, nil},
		{"all at the best limits", values("1/4 1/3 1/2", 3, 1), 0, nil},
		{"Steady above best", values("1001/4000 1/3 1/2", 3, 1), 1, []int{0}},
		{"Developed above best", values("1/4 1001/3000 1/2", 3, 1), 1, []int{1}},
		{"Skew above best", values("1/4 1/3 1001/2000", 3, 1), 1, []int{2}},
		{"Rest above best", values("1/4 1/3 1/2", 4, 1), 1, []int{3}},
		{"Missing above best", values("1/4 1/3 1/2", 3, 2), 1, []int{4}},
		{"all at the usable limits", values("1 1 2", 5, 4), 1, []int{0, 1, 2, 3, 4}},
		{"Steady above usable", values("1001/1000 0 0", 0, 0), 2, []int{0}},
		{"Developed above usable", values("0 1001/1000 0", 0, 0), 2, []int{1}},
		{"Skew above usable", values("0 0 2001/1000", 0, 0), 2, []int{2}},
		{"Rest above usable", values("0 0 0", 6, 0), 2, []int{3}},
		{"Missing above usable", values("0 0 0", 0, 5), 2, []int{4}},
		{"one above usable, one above best", values("1/2 0 0", 0, 5), 2, []int{0, 4}},
		{"the greatest numbers", values("9999999999999999999999 0 0", math.MaxInt, math.MaxInt), 2, []int{0, 3, 4}},
	} {
		got, e := Judge(c.t, best, usable)
		isCode(t, "Judge of "+c.what, e, api.OK)
		isInt(t, "the Class of "+c.what, got.Class, c.class)
		isInts(t, "Reasons of "+c.what, got.Reasons, c.reasons)
	}
	got, e := Judge(values("1/2 0 0", 0, 0), limits("1/4 0 0", 0, 0), limits("1 0 0", 0, 0))
	isCode(t, "Judge of the example", e, api.OK)
	isInt(t, "the Class of the example", got.Class, 1)
	isInts(t, "Reasons of the example", got.Reasons, []int{0})
}

// oneOff is as many values as there are tests, in each of which another one was changed.
func oneOff(part string, n int) []Tests {
	x := frac(part)
	return []Tests{{Steady: x}, {Developed: x}, {Skew: x}, {Rest: n}, {Missing: n}}
}

func isJudged(t *testing.T, what string, tests Tests, best, usable Limits, want api.Errno) {
	t.Helper()
	got, e := Judge(tests, best, usable)
	isCode(t, what, e, want)
	isTrue(t, what+" has zero values", e == api.OK || got.Class == 0 && len(got.Reasons) == 0)
}

func TestJudgeErrors(t *testing.T) {
	high := limits("1 1 1", 1, 1)
	isJudged(t, "zeros", Tests{}, Limits{}, Limits{}, api.OK)
	isJudged(t, "equal limits", Tests{}, high, high, api.OK)
	for _, below := range append(oneOff("-1/1000", -1), oneOff("-9999999999999999999999", math.MinInt)...) {
		isJudged(t, "a test below 0", below, Limits{}, high, api.ErrArg)
		isJudged(t, "a best limit below 0", Tests{}, Limits(below), high, api.ErrArg)
		isJudged(t, "a usable limit below 0", Tests{}, high, Limits(below), api.ErrArg)
		isJudged(t, "a usable limit below 0, and just one above", Tests{}, Limits{}, Limits(below), api.ErrArg)
		isJudged(t, "all below 0", below, Limits(below), Limits(below), api.ErrArg)
		isJudged(t, "a test below 0, and limits out of order", below, high, Limits{}, api.ErrArg)
	}
	for _, above := range append(oneOff("1/1000", 1), oneOff("9999999999999999999999", math.MaxInt)...) {
		isJudged(t, "limits out of order", Tests{}, Limits(above), Limits{}, api.ErrOrder)
		isJudged(t, "limits out of order, and a test above them", above, Limits(above), Limits{}, api.ErrOrder)
		isJudged(t, "limits in order", above, Limits{}, Limits(above), api.OK)
	}
	// The other limits are in order.
	isJudged(t, "just one limit out of order", Tests{}, limits("0 0 0", 2, 0), high, api.ErrOrder)
}

// randomValues is small values, so that tests are often at their limits.
func randomValues(r *rand.Rand) Tests {
	part := func() num.Frac {
		x, _ := num.New(int64(r.Intn(8)), int64(1+r.Intn(3)))
		return x
	}
	return Tests{part(), part(), part(), r.Intn(7), r.Intn(7)}
}

// greater is the values with one of them grown.
func greater(r *rand.Rand, t Tests) Tests {
	more := randomAbove(r)
	switch r.Intn(5) {
	case 0:
		t.Steady = t.Steady.Add(more)
	case 1:
		t.Developed = t.Developed.Add(more)
	case 2:
		t.Skew = t.Skew.Add(more)
	case 3:
		t.Rest += 1 + r.Intn(3)
	case 4:
		t.Missing += 1 + r.Intn(3)
	}
	return t
}

// slowReasons compares the values one by one.
func slowReasons(t Tests, l Limits) []int {
	var reasons []int
	for i, above := range []bool{
		t.Steady.Cmp(l.Steady) > 0, t.Developed.Cmp(l.Developed) > 0, t.Skew.Cmp(l.Skew) > 0, t.Rest > l.Rest, t.Missing > l.Missing,
	} {
		if above {
			reasons = append(reasons, i)
		}
	}
	return reasons
}

// randomLimits is as many limits, none of which is above that of the next ones.
func randomLimits(r *rand.Rand, count int) []Limits {
	at := randomValues(r)
	l := []Limits{Limits(at)}
	for len(l) < count {
		for range r.Intn(4) {
			at = greater(r, at)
		}
		l = append(l, Limits(at))
	}
	return l
}

func TestJudgeModel(t *testing.T) {
	r := seeded()
	var classes [3]int
	for range 2000 {
		l := randomLimits(r, 2)
		best, usable := l[0], l[1]
		tests := randomValues(r)
		got, e := Judge(tests, best, usable)
		isCode(t, "Judge", e, api.OK)
		want := 2
		if len(slowReasons(tests, best)) == 0 {
			want = 0
		} else if len(slowReasons(tests, usable)) == 0 {
			want = 1
		}
		classes[want]++
		isInt(t, "Class", got.Class, want)
		isInts(t, "Reasons", got.Reasons, slowReasons(tests, best))
		isTrue(t, "the Class is 0 just without Reasons", (got.Class == 0) == (len(got.Reasons) == 0))
	}
	for _, count := range classes {
		isTrue(t, "many runs have each class", count > 20)
	}
}

// has reports whether all reasons of a are among those of b.
func has(b, a []int) bool {
	in := map[int]bool{}
	for _, reason := range b {
		in[reason] = true
	}
	for _, reason := range a {
		if !in[reason] {
			return false
		}
	}
	return true
}

func TestStricterIsNeverBetter(t *testing.T) {
	r := seeded()
	var better int
	for range 2000 {
		l := randomLimits(r, 4)
		best, usable := l[1], l[3]
		tests := randomValues(r)
		before, e := Judge(tests, best, usable)
		isCode(t, "Judge", e, api.OK)
		for _, c := range []struct {
			what         string
			tests        Tests
			best, usable Limits
		}{
			{"a greater value", greater(r, tests), best, usable},
			{"a stricter best limit", tests, l[0], usable},
			{"a stricter usable limit", tests, best, l[2]},
			{"stricter limits", tests, l[0], l[2]},
		} {
			after, e := Judge(c.tests, c.best, c.usable)
			isCode(t, "Judge with "+c.what, e, api.OK)
			isTrue(t, c.what+" makes no run better", after.Class >= before.Class)
			isTrue(t, c.what+" takes no reason away", has(after.Reasons, before.Reasons))
			better += after.Class - before.Class
		}
	}
	isTrue(t, "many runs were better before", better > 100)
}

// P1 and R4.
func TestAnyJudge(t *testing.T) {
	r := seeded()
	anyValues := func() Tests {
		if r.Intn(2) == 0 {
			return randomValues(r)
		}
		return Tests{randomFrac(r), randomFrac(r), randomFrac(r), extreme(r), extreme(r)}
	}
	for range 3000 {
		tests, best, usable := anyValues(), Limits(anyValues()), Limits(anyValues())
		got, e := Judge(tests, best, usable)
		if e != api.OK && (got.Class != 0 || len(got.Reasons) > 0) {
			t.Fatal("a grade with an error")
		}
		for i := range got.Reasons {
			got.Reasons[i] = 99
		}
		if again, _ := Judge(tests, best, usable); len(again.Reasons) > 0 && again.Reasons[0] == 99 {
			t.Fatal("results of two calls share memory")
		}
	}
}
