package budget_test

import (
	"math"
	"math/big"
	"math/rand"
	"slices"
	"testing"

	"fluxmast/api"
	"fluxmast/budget"
	"fluxmast/num"
)

// P9.1 and P9.6: chambers.

const maxMinute = 1 << 40

func TestWhich(t *testing.T) {
	days := slices.Repeat([]int{1440}, 8)
	for _, c := range []struct {
		minutes                []int
		minute, chamber, since int
	}{
		{[]int{10, 20}, 0, 0, 0},
		{[]int{10, 20}, 9, 0, 9},
		{[]int{10, 20}, 10, 1, 0},
		{[]int{10, 20}, 29, 1, 19},
		{[]int{10, 20}, 30, 0, 0},
		{[]int{10, 20}, 35, 0, 5},
		{[]int{10, 20}, 30 << 30, 0, 0},
		{[]int{1}, maxMinute, 0, 0},
		{[]int{1440}, 1439, 0, 1439},
		{[]int{1440}, 1440, 0, 0},
		{[]int{1, 1, 1}, 4, 1, 0},
		{[]int{3, 1, 2}, 3, 1, 0},
		{[]int{3, 1, 2}, 4, 2, 0},
		{days, 8*1440 - 1, 7, 1439},
		{days, maxMinute, maxMinute % (8 * 1440) / 1440, maxMinute % 1440},
	} {
		chamber, since, e := budget.Which(c.minutes, c.minute)
		isCode(t, "Which", e, api.OK)
		isInt(t, "the chamber", chamber, c.chamber)
		isInt(t, "the minutes since", since, c.since)
	}
}

func TestWhichErrors(t *testing.T) {
	whichError := func(what string, minutes []int, minute int, want api.Errno) {
		t.Helper()
		chamber, since, e := budget.Which(minutes, minute)
		isCode(t, "Which with "+what, e, want)
		isTrue(t, "an error of Which comes alone, "+what, e == api.OK || chamber == 0 && since == 0)
	}
	good := []int{10, 20, 30}
	for _, minute := range []int{25, -1} {
		whichError("no list", nil, minute, api.ErrSize)
		whichError("an empty list", []int{}, minute, api.ErrSize)
		whichError("nine chambers", make([]int, 9), minute, api.ErrSize)
	}
	for i := range good {
		for _, n := range outside(1, 1440) {
			whichError("wrong minutes", with(good, i, n), 25, api.ErrArg)
			whichError("wrong minutes", with(good, i, n), -1, api.ErrArg)
		}
	}
	for _, n := range outside(0, maxMinute) {
		whichError("a wrong minute", good, n, api.ErrArg)
	}
	whichError("the first minute", good, 0, api.OK)
	whichError("the last minute", good, maxMinute, api.OK)
	whichError("eight chambers", slices.Repeat([]int{1440}, 8), 25, api.OK)
}

func TestEachMinute(t *testing.T) {
	r := seeded()
	for range 100 {
		minutes := make([]int, 1+r.Intn(8))
		for i := range minutes {
			minutes[i] = 1 + r.Intn([]int{3, 30}[r.Intn(2)])
		}
		// The round begins again at any multiple of its minutes.
		minute := sum(minutes) * r.Intn(maxMinute/2/sum(minutes))
		for range 2 {
			for chamber, n := range minutes {
				for since := range n {
					got, at, e := budget.Which(minutes, minute)
					isCode(t, "Which", e, api.OK)
					isTrue(t, "each chamber is closed as long as it is to be", got == chamber && at == since)
					minute++
				}
			}
		}
	}
}

// readings is the readings of seconds and values, one after the other.
func readings(text string) []budget.Reading {
	var l []budget.Reading
	for pair := range slices.Chunk(fracs(text), 2) {
		second, _ := pair[0].Whole()
		l = append(l, budget.Reading{Second: int(second), Value: pair[1]})
	}
	return l
}

func randomReadings(r *rand.Rand, count int) []budget.Reading {
	l := make([]budget.Reading, count)
	for i := range l {
		l[i] = budget.Reading{Second: randomInt(r, 0, 86400), Value: randomFrac(r)}
	}
	return l
}

// left is the sum of squares that the line a + b Second leaves.
func left(l []budget.Reading, a, b *big.Rat) *big.Rat {
	total := new(big.Rat)
	for _, x := range l {
		rest := ratSub(rat(x.Value), ratAdd(a, ratMul(b, ratOf(x.Second))))
		total = ratAdd(total, ratMul(rest, rest))
	}
	return total
}

// slowRise returns the line through the means with the slope that the products of the differences from them have.
func slowRise(l []budget.Reading) (a, b *big.Rat, ok bool) {
	count := ratOf(len(l))
	second, value := new(big.Rat), new(big.Rat)
	for _, x := range l {
		second, value = ratAdd(second, ratQuo(ratOf(x.Second), count)), ratAdd(value, ratQuo(rat(x.Value), count))
	}
	top, bottom := new(big.Rat), new(big.Rat)
	for _, x := range l {
		apart := ratSub(ratOf(x.Second), second)
		top, bottom = ratAdd(top, ratMul(apart, ratSub(rat(x.Value), value))), ratAdd(bottom, ratMul(apart, apart))
	}
	if bottom.Sign() == 0 {
		return nil, nil, false
	}
	b = ratQuo(top, bottom)
	return ratSub(value, ratMul(b, second)), b, true
}

func TestRise(t *testing.T) {
	day := readings("0 0 86400 1")
	for _, c := range []struct {
		what        string
		l           []budget.Reading
		slope, rest string
		code        api.Errno
	}{
		{"the example", readings("0 1 1 2 2 4"), "3/2", "1/6", api.OK},
		{"the example in another order", readings("2 4 0 1 1 2"), "3/2", "1/6", api.OK},
		{"a line", readings("0 1/2 3 2 9 5"), "1/2", "0", api.OK},
		{"a line far from 0", readings("86398 5 86400 4"), "-1/2", "0", api.OK},
		{"a constant", readings("0 7 5 7 9 7"), "0", "0", api.OK},
		{"two readings", day, "1/86400", "0", api.OK},
		{"a second twice", readings("0 1 0 3 1 2 1 4"), "1", "4", api.OK},
		{"64 readings", slices.Repeat(day, 32), "1/86400", "0", api.OK},
		{"65 readings", append(slices.Repeat(day, 32), day[0]), "0", "0", api.ErrSize},
		{"no list", nil, "0", "0", api.ErrSize},
		{"one reading", day[:1], "0", "0", api.ErrSize},
		{"one reading too late", []budget.Reading{{Second: 86401}}, "0", "0", api.ErrSize},
		{"65 readings too late", slices.Repeat(readings("86401 1"), 65), "0", "0", api.ErrSize},
		{"a single second", readings("3 1 3 2"), "0", "0", api.ErrSingular},
		{"a single second, with the same value", readings("0 1 0 1 0 1"), "0", "0", api.ErrSingular},
		{"a single second, too late", readings("86401 1 86401 1"), "0", "0", api.ErrArg},
	} {
		slope, rest, e := budget.Rise(c.l)
		isCode(t, "Rise of "+c.what, e, c.code)
		isText(t, "Rise of "+c.what, slope.Text(), c.slope)
		isText(t, "what Rise leaves of "+c.what, rest.Text(), c.rest)
	}
	for _, n := range outside(0, 86400) {
		for i := range 3 {
			l := readings("0 1 1 2 2 4")
			l[i].Second = n
			slope, rest, e := budget.Rise(l)
			isCode(t, "Rise of a wrong second", e, api.ErrArg)
			isTrue(t, "an error of Rise comes alone", slope.Zero() && rest.Zero())
		}
	}
}

func TestRiseModel(t *testing.T) {
	r := seeded()
	for range 200 {
		l := randomReadings(r, []int{2 + r.Intn(6), 2 + r.Intn(63)}[r.Intn(2)])
		slope, rest, e := budget.Rise(l)
		a, b, ok := slowRise(l)
		if !ok {
			isCode(t, "Rise of a single second", e, api.ErrSingular)
			continue
		}
		isCode(t, "Rise", e, api.OK)
		isRat(t, "Rise", slope, b)
		isRat(t, "what Rise leaves", rest, left(l, a, b))
		for range 3 {
			other := left(l, ratAdd(a, rat(randomFrac(r))), ratAdd(b, rat(randomFrac(r))))
			isTrue(t, "no other line leaves less", other.Cmp(rat(rest)) >= 0)
		}
		again, same, e := budget.Rise(shuffled(r, l))
		isTrue(t, "Rise in another order", e == api.OK && again.Same(slope) && same.Same(rest))
		// Readings on a line.
		start, rise := randomFrac(r), randomFrac(r)
		for i, x := range l {
			l[i].Value = start.Add(rise.Mul(num.Int(int64(x.Second))))
		}
		slope, rest, e = budget.Rise(l)
		isTrue(t, "Rise of a line is its slope, with no rest", e == api.OK && slope.Same(rise) && rest.Zero())
	}
}

func TestEfflux(t *testing.T) {
	hardly := tiny().Neg().Text()
	for _, c := range []struct {
		slope, volume, area, want string
		code                      api.Errno
	}{
		{"3/2", "4", "12", "1/2", api.OK},
		{"-3/2", "4", "12", "-1/2", api.OK},
		{"0", "4", "12", "0", api.OK},
		{"3/2", "0", "12", "0", api.OK},
		{"1", "1", tiny().Text(), "1" + tiny().Text()[3:], api.OK},
		{"1", hardly, "1", "0", api.ErrArg},
		{"1", "-1", "1", "0", api.ErrArg},
		{"1", "1", "0", "0", api.ErrArg},
		{"1", "1", hardly, "0", api.ErrArg},
		{"1", "-1", "-1", "0", api.ErrArg},
		{"0", "0", "0", "0", api.ErrArg},
	} {
		got, e := budget.Efflux(frac(c.slope), frac(c.volume), frac(c.area))
		isCode(t, "Efflux", e, c.code)
		isText(t, "Efflux", got.Text(), c.want)
	}
	r := seeded()
	for range 300 {
		slope, volume, area := randomFrac(r), randomFrac(r).Abs(), randomAbove(r)
		got := right[num.Frac](t, "Efflux")(budget.Efflux(slope, volume, area))
		isRat(t, "Efflux", got, ratQuo(ratMul(rat(slope), rat(volume)), rat(area)))
	}
}

func TestChambersKeepTheirArguments(t *testing.T) {
	minutes, sameMinutes := behind(t, []int{10, 20}, 77, equal)
	l, same := behind(t, readings("0 1 1 2 2 4"), budget.Reading{Second: 77}, func(a, b budget.Reading) bool {
		return a.Second == b.Second && a.Value.Same(b.Value)
	})
	for range 2 {
		chamber, since, e := budget.Which(minutes, 35)
		isTrue(t, "Which", e == api.OK && chamber == 0 && since == 5)
		slope, rest, e := budget.Rise(l)
		isTrue(t, "Rise", e == api.OK && slope.Text() == "3/2" && rest.Text() == "1/6")
	}
	sameMinutes()
	same()
}

// P1: no call panics, and an error comes alone.
func TestAnyChambers(t *testing.T) {
	r := seeded()
	for range 3000 {
		minutes, minute := extremes(r, r.Intn(4)), []int{extreme(r), r.Intn(math.MaxInt)}[r.Intn(2)]
		chamber, since, e := budget.Which(minutes, minute)
		isTrue(t, "an error of Which comes alone", e == api.OK || chamber == 0 && since == 0)
		l := randomReadings(r, 1+r.Intn(4))
		l[0].Second = extreme(r)
		slope, rest, e := budget.Rise(l)
		isTrue(t, "an error of Rise comes alone", e == api.OK || slope.Zero() && rest.Zero())
		efflux, e := budget.Efflux(randomFrac(r), randomFrac(r), randomFrac(r))
		isTrue(t, "an error of Efflux comes alone", e == api.OK || efflux.Zero())
	}
}
