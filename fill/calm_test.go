package fill_test

import (
	"math"
	"math/big"
	"math/rand"
	"slices"
	"testing"

	"fluxmast/api"
	"fluxmast/fill"
	"fluxmast/num"
)

// P8.1, P8.2 and P8.3: thresholds.

// nights is the nights of a text: the friction and the flux of each one.
func nights(text string) []fill.Night {
	var l []fill.Night
	for pair := range slices.Chunk(fracs(text), 2) {
		l = append(l, fill.Night{Friction: pair[0], Flux: pair[1]})
	}
	return l
}

// slowCalm takes the night with the least friction, the first of equal ones, again and again.
func slowCalm(l []fill.Night, classes int, part num.Frac) (*big.Rat, bool) {
	rest := slices.Clone(l)
	var order []fill.Night
	for len(rest) > 0 {
		least := 0
		for i, n := range rest {
			if rat(n.Friction).Cmp(rat(rest[least].Friction)) < 0 {
				least = i
			}
		}
		order = append(order, rest[least])
		rest = slices.Delete(rest, least, least+1)
	}
	class := func(i int) int { // the last one that begins no later
		c := classes - 1
		for c*len(l)/classes > i {
			c--
		}
		return c
	}
	for c := range classes - 1 {
		var first *big.Rat
		var own, later []*big.Rat
		for i, n := range order {
			switch {
			case class(i) == c && first == nil:
				first = rat(n.Friction)
				own = append(own, rat(n.Flux))
			case class(i) == c:
				own = append(own, rat(n.Flux))
			case class(i) > c:
				later = append(later, rat(n.Flux))
			}
		}
		if ratMean(own).Cmp(ratMul(rat(part), ratMean(later))) >= 0 {
			return first, true
		}
	}
	return nil, false
}

// slowCalms returns the thresholds, ascending.
func slowCalms(l []fill.Night, classes int, part num.Frac, seed uint64, times int) ([]*big.Rat, int) {
	var found []*big.Rat
	without := 0
	for range times {
		var numbers []int
		numbers, seed = slowSample(seed, len(l))
		var drawn []fill.Night
		for _, i := range numbers {
			drawn = append(drawn, l[i])
		}
		if x, ok := slowCalm(drawn, classes, part); ok {
			found = append(found, x)
		} else {
			without++
		}
	}
	slices.SortFunc(found, func(a, b *big.Rat) int { return a.Cmp(b) })
	return found, without
}

// randomNights is nights of which several often have the same friction.
func randomNights(r *rand.Rand, count int) []fill.Night {
	l := make([]fill.Night, count)
	wide := 1 + r.Int63n(20)
	for i := range l {
		l[i] = fill.Night{Friction: num.Int(r.Int63n(wide)), Flux: randomFrac(r)}
		if r.Intn(9) == 0 {
			l[i].Friction = randomFrac(r).Abs()
		}
	}
	return l
}

// windyNights is nights whose flux is not below 0, and most often grows with the friction.
func windyNights(r *rand.Rand, count int) []fill.Night {
	l := make([]fill.Night, count)
	for i := range l {
		friction := r.Int63n(30)
		l[i] = fill.Night{Friction: num.Int(friction), Flux: num.Int(min(friction, r.Int63n(30)))}
	}
	return l
}

func randomClasses(r *rand.Rand) (count, classes int) {
	classes = 2 + r.Intn(7)
	return classes + r.Intn(49-classes), classes
}

func TestCalm(t *testing.T) {
	for _, c := range []struct {
		what, nights string
		classes      int
		part, want   string
		code         api.Errno
	}{
		{"the example", "1 1 2 4 3 4 4 4", 2, "1/2", "1", api.OK},
		{"more than there is", "1 1 2 4 3 4 4 4", 2, "9/10", "0", api.ErrCalm},
		{"just what there is", "1 1 2 4 3 4 4 4", 2, "5/8", "1", api.OK},
		{"hardly more than there is", "1 1 2 4 3 4 4 4", 2, "625000000001/1000000000000", "0", api.ErrCalm},
		{"nights out of order", "4 4 3 4 1 1 2 4", 2, "1/2", "1", api.OK},
		{"classes of one night", "4 4 3 4 1 1 2 4", 4, "1", "2", api.OK},
		{"the last class but one", "1 1 2 2 3 4 4 4", 4, "1", "3", api.OK},
		{"the last class, which is never told", "1 1 2 2 3 3 4 4", 4, "1", "0", api.ErrCalm},
		{"the part 0", "1 0 2 7 3 7 4 7", 2, "0", "1", api.OK},
		{"the part 0, and a mean below 0", "1 -1 2 0 3 7 4 7", 2, "0", "0", api.ErrCalm},
		{"fluxes below 0", "1 -1 2 -1 3 -7 4 -7", 2, "1", "1", api.OK},
		{"a part of fluxes below 0", "1 -4 2 -4 3 -7 4 -7", 2, "1/2", "0", api.ErrCalm},
		{"two nights", "7/2 1 5/2 1", 2, "1", "5/2", api.OK},
		{"the friction 0", "0 1 0 1", 2, "1", "0", api.OK},
		{"a short first class", "1 0 2 4 3 4", 2, "1", "0", api.ErrCalm},                  // 1, and 2 3
		{"short classes ahead of long ones", "1 0 2 2 3 5 4 1", 3, "1", "0", api.ErrCalm}, // 1, 2, and 3 4, whose mean is 3
		{"a class of two nights", "1 0 2 0 3 3 4 2 5 3", 3, "3/5", "2", api.OK},           // 1, 2 3, and 4 5: 3/2 is 3/5 of 5/2
	} {
		got, e := fill.Calm(nights(c.nights), c.classes, frac(c.part))
		isCode(t, "Calm of "+c.what, e, c.code)
		isText(t, "Calm of "+c.what, got.Text(), c.want)
	}
}

func TestEqualFrictions(t *testing.T) {
	// Equal nights stay as they come, so that the first one is the first class.
	for _, c := range []struct {
		nights string
		code   api.Errno
	}{
		{"5 1 5 4 5 4", api.ErrCalm},
		{"5 4 5 1 5 4", api.OK},
		{"5 4 5 4 5 1", api.OK},
	} {
		_, e := fill.Calm(nights(c.nights), 2, frac("1"))
		isCode(t, "Calm of equal nights "+c.nights, e, c.code)
	}
	// With so many nights an order that is not stable would be another one.
	l := slices.Repeat(nights("5 8"), 48)
	for i := range l {
		l[i].Flux = num.Int(int64(100 - i))
	}
	isText(t, "Calm of equal nights that fall", right[num.Frac](t, "Calm")(fill.Calm(l, 8, frac("1"))).Text(), "5")
	slices.Reverse(l)
	_, e := fill.Calm(l, 8, frac("1"))
	isCode(t, "Calm of equal nights that rise", e, api.ErrCalm)
}

func TestCalmModel(t *testing.T) {
	r := seeded()
	found := 0
	for range 1000 {
		count, classes := randomClasses(r)
		l, part := randomNights(r, count), randomShare(r)
		if r.Intn(2) == 0 {
			l = windyNights(r, count)
		}
		want, ok := slowCalm(l, classes, part)
		got, e := fill.Calm(l, classes, part)
		if !ok {
			isCode(t, "Calm", e, api.ErrCalm)
			isTrue(t, "Calm has a zero value", got.Zero())
			continue
		}
		found++
		isCode(t, "Calm", e, api.OK)
		isRat(t, "Calm", got, want)
		isTrue(t, "Calm is the friction of a night", slices.ContainsFunc(l, func(n fill.Night) bool { return n.Friction.Same(got) }))
	}
	isTrue(t, "many nights have a threshold, and many none", found > 200 && found < 900)
}

// calmCase is arguments of Calm with their error.
type calmCase struct {
	what    string
	l       []fill.Night
	classes int
	part    string
	want    api.Errno
}

func calmCases() []calmCase {
	many := slices.Repeat(nights("1 1"), 48)
	below := nights("1 1 2 2 -1/1000000 3")
	return []calmCase{
		{"no list", nil, 2, "1", api.ErrSize},
		{"an empty list", []fill.Night{}, 2, "1", api.ErrSize},
		{"no list, and one class", nil, 1, "1", api.ErrSize},
		{"49 nights", slices.Repeat(nights("1 1"), 49), 2, "1", api.ErrSize},
		{"49 nights below 0", slices.Repeat(nights("-1 1"), 49), 1, "2", api.ErrSize},
		{"48 nights", many, 8, "1", api.OK},
		{"a first friction below 0", nights("-1 1 2 2"), 2, "1", api.ErrArg},
		{"a last friction below 0", below, 2, "1", api.ErrArg},
		{"a friction below 0, and too few nights", below, 4, "1", api.ErrArg},
		{"one class", many, 1, "1", api.ErrArg},
		{"no class", many, 0, "1", api.ErrArg},
		{"fewer classes than none", many, -2, "1", api.ErrArg},
		{"nine classes", many, 9, "1", api.ErrArg},
		{"nine classes of few nights", many[:3], 9, "1", api.ErrArg},
		{"the most classes", many, math.MaxInt, "1", api.ErrArg},
		{"the fewest classes", many, math.MinInt, "1", api.ErrArg},
		{"a part above 1", many, 2, "2", api.ErrArg},
		{"a part hardly above 1", many, 2, "1000000000000000000001/1000000000000000000000", api.ErrArg},
		{"a part below 0", many, 2, "-1/1000000000000000000000", api.ErrArg},
		{"a part above 1, and too few nights", many[:1], 2, "2", api.ErrArg},
		{"fewer nights than classes", many[:7], 8, "1", api.ErrSize},
		{"one night", many[:1], 2, "1", api.ErrSize},
		{"as many nights as classes", many[:8], 8, "1", api.OK},
	}
}

func TestCalmErrors(t *testing.T) {
	for _, c := range calmCases() {
		x, e := fill.Calm(c.l, c.classes, frac(c.part))
		isCode(t, "Calm with "+c.what, e, c.want)
		isTrue(t, "Calm has a zero value with "+c.what, e == api.OK || x.Zero())
		for _, times := range []int{1, 32, 0, -1, 33, math.MaxInt, math.MinInt} {
			want := c.want
			if want == api.OK && (times < 1 || times > 32) {
				want = api.ErrArg
			}
			l, without, e := fill.Calms(c.l, c.classes, frac(c.part), 7, times)
			isCode(t, "Calms with "+c.what, e, want)
			isTrue(t, "Calms has zero values with "+c.what, e == api.OK || len(l) == 0 && without == 0)
			if e == api.OK {
				isInt(t, "Calms with "+c.what, len(l)+without, times)
			}
		}
	}
	// Nights that are too calm are no error of Calms, but its times are looked at.
	calm := nights("1 1 2 9")
	_, e := fill.Calm(calm, 2, frac("1"))
	isCode(t, "Calm of calm nights", e, api.ErrCalm)
	_, _, e = fill.Calms(calm, 2, frac("1"), 7, 0)
	isCode(t, "Calms of calm nights, none of them", e, api.ErrArg)
	_, _, e = fill.Calms(calm, 2, frac("1"), 7, 1)
	isCode(t, "Calms of calm nights", e, api.OK)
}

func TestCalmsModel(t *testing.T) {
	r := seeded()
	found, without := 0, 0
	for range 100 {
		count, classes := randomClasses(r)
		l, part, seed := windyNights(r, count), randomShare(r), r.Uint64()
		if r.Intn(2) == 0 {
			l = randomNights(r, count)
		}
		times := 1 + r.Intn(32)
		want, calm := slowCalms(l, classes, part, seed, times)
		for range 2 { // twice, as nothing is kept
			got, none, e := fill.Calms(l, classes, part, seed, times)
			isCode(t, "Calms", e, api.OK)
			isInt(t, "resamples without a threshold", none, calm)
			isInt(t, "thresholds", len(got), len(want))
			for i, x := range got {
				isRat(t, "Calms", x, want[i])
			}
			scribble(got, num.Int(-1))
		}
		found, without = found+len(want), without+calm
	}
	isTrue(t, "many resamples have a threshold, and many none", found > 200 && without > 200)
}

func TestMoreTimes(t *testing.T) {
	r := seeded()
	for range 20 {
		count, classes := randomClasses(r)
		l, part, seed := windyNights(r, count), randomShare(r), r.Uint64()
		var before []num.Frac
		calm := 0
		for times := 1; times <= 32; times++ {
			got, without, e := fill.Calms(l, classes, part, seed, times)
			isCode(t, "Calms", e, api.OK)
			isInt(t, "resamples", len(got)+without, times)
			isTrue(t, "thresholds ascend", slices.IsSortedFunc(got, num.Frac.Cmp))
			isTrue(t, "no fewer resamples have no threshold", without >= calm)
			// Each threshold of the fewer ones is there again, as often as before.
			rest := slices.Clone(got)
			for _, x := range before {
				i := slices.IndexFunc(rest, x.Same)
				if i < 0 {
					t.Fatal("a threshold is lost")
				}
				rest = slices.Delete(rest, i, i+1)
			}
			before, calm = got, without
		}
	}
}

func TestThresholds(t *testing.T) {
	r := seeded()
	for range 300 {
		count, classes := randomClasses(r)
		l, part, lesser := windyNights(r, count), randomShare(r), randomShare(r)
		if part.Cmp(lesser) < 0 {
			part, lesser = lesser, part
		}
		x, e := fill.Calm(l, classes, part)
		y, f := fill.Calm(l, classes, lesser)
		isTrue(t, "a lesser part has no greater threshold", e == api.ErrCalm || f == api.OK && y.Cmp(x) <= 0)
		times := randomAbove(r)
		for i := range l {
			l[i].Flux = l[i].Flux.Mul(times)
		}
		y, f = fill.Calm(l, classes, part)
		isCode(t, "Calm of fluxes times a number", f, e)
		isText(t, "Calm of fluxes times a number", y.Text(), x.Text())
	}
}

func TestMiddle(t *testing.T) {
	for _, c := range []struct {
		numbers  string
		part, of int
		want     string
	}{
		{"1 2 3 4 5", 1, 2, "[2,4]"},
		{"5 4 3 2 1", 1, 2, "[2,4]"},
		{"5 4 3 2 1", 0, 1, "[3,3]"},
		{"5 4 3 2 1", 1, 1, "[1,5]"},
		{"5 4 3 2 1", 1000, 1000, "[1,5]"},
		{"5 4 3 2 1", 0, 1000, "[3,3]"},
		{"5 4 3 2 1", 1, 1000, "[2,4]"}, // 4 times 999/2000 is hardly less than 2
		{"5 4 3 2 1", 500, 1000, "[2,4]"},
		{"5 4 3 2 1", 501, 1000, "[1,5]"},
		{"5 1", 0, 1, "[1,5]"},
		{"5 1 3", 0, 1, "[3,3]"},
		{"7", 0, 1, "[7,7]"},
		{"7", 5, 5, "[7,7]"},
		{"-1/2 -1/3 -1/5 0", 0, 7, "[-1/3,-1/5]"},
		{"2 2 1 1", 0, 7, "[1,2]"},
		{"2 2 2 1", 0, 7, "[2,2]"},
	} {
		got, e := fill.Middle(fracs(c.numbers), c.part, c.of)
		isCode(t, "Middle of "+c.numbers, e, api.OK)
		isText(t, "Middle of "+c.numbers, got.Text(), c.want)
	}
}

func TestMiddleErrors(t *testing.T) {
	few, many := fracs("1 2 3"), make([]num.Frac, 49)
	for _, c := range []struct {
		what     string
		l        []num.Frac
		part, of int
		want     api.Errno
	}{
		{"no list", nil, 1, 2, api.ErrSize},
		{"an empty list", []num.Frac{}, 9, 0, api.ErrSize},
		{"49 numbers", many, 1, 2, api.ErrSize},
		{"49 numbers and no share", many, 2, 1, api.ErrSize},
		{"48 numbers", many[:48], 1, 2, api.OK},
		{"an of of 0", few, 0, 0, api.ErrArg},
		{"an of below 0", few, 0, -1, api.ErrArg},
		{"the greatest of there may be", few, 1000, 1000, api.OK},
		{"an of too great", few, 1, 1001, api.ErrArg},
		{"the greatest of", few, 1, math.MaxInt, api.ErrArg},
		{"the least of", few, 1, math.MinInt, api.ErrArg},
		{"both below 0", few, -1, -1, api.ErrArg},
		{"a part below 0", few, -1, 2, api.ErrArg},
		{"a part above of", few, 3, 2, api.ErrArg},
		{"the greatest part", few, math.MaxInt, 2, api.ErrArg},
		{"the least part", few, math.MinInt, 2, api.ErrArg},
	} {
		got, e := fill.Middle(c.l, c.part, c.of)
		isCode(t, "Middle with "+c.what, e, c.want)
		isTrue(t, "Middle has a zero value with "+c.what, e == api.OK || isZero(got))
	}
}

// slowNumber is the number at a place of an ascending order: as many are not above it.
func slowNumber(l []num.Frac, place int) *big.Rat {
	for _, x := range l {
		less, same := 0, 0
		for _, y := range l {
			switch rat(y).Cmp(rat(x)) {
			case -1:
				less++
			case 0:
				same++
			}
		}
		if less <= place && place < less+same {
			return rat(x)
		}
	}
	panic("no number at the place")
}

func TestMiddleModel(t *testing.T) {
	r := seeded()
	for range 300 {
		l := make([]num.Frac, 1+r.Intn(48))
		for i := range l {
			l[i] = randomFrac(r)
		}
		of := 1 + r.Intn(1000)
		part := r.Intn(of + 1)
		j := slowFloor(big.NewRat(int64((len(l)-1)*(of-part)), int64(2*of))).Int64()
		got := right[num.Band](t, "Middle")(fill.Middle(l, part, of))
		isBand(t, "Middle", got, slowNumber(l, int(j)), slowNumber(l, len(l)-1-int(j)))
	}
}

func TestCalmKeepsItsArguments(t *testing.T) {
	mark := nights("77 77")[0]
	l, same := behind(t, nights("4 4 3 4 1 1 2 4"), mark, sameNight)
	numbers, sameNumbers := behind(t, fracs("5 1 4"), num.Int(77), num.Frac.Same)
	for range 2 {
		isText(t, "Calm", right[num.Frac](t, "Calm")(fill.Calm(l, 2, frac("1/2"))).Text(), "1")
		_, _, e := fill.Calms(l, 2, frac("1/2"), 5, 9)
		isCode(t, "Calms", e, api.OK)
		isText(t, "Middle", right[num.Band](t, "Middle")(fill.Middle(numbers, 1, 1)).Text(), "[1,5]")
	}
	same()
	sameNumbers()
}

// P1: no call panics, and an error comes alone.
func TestAnyNights(t *testing.T) {
	r := seeded()
	for range 2000 {
		l, part := randomNights(r, r.Intn(51)), randomShare(r)
		if r.Intn(3) == 0 {
			part = randomFrac(r)
		}
		if len(l) > 0 && r.Intn(4) == 0 {
			l[r.Intn(len(l))].Friction = randomFrac(r)
		}
		classes := []int{2, 8, extreme(r)}[r.Intn(3)]
		x, e := fill.Calm(l, classes, part)
		isTrue(t, "an error of Calm comes alone", e == api.OK || x.Zero())
		all, without, e := fill.Calms(l, classes, part, r.Uint64(), extreme(r))
		isTrue(t, "an error of Calms comes alone", e == api.OK || len(all) == 0 && without == 0)
		b, e := fill.Middle(all, extreme(r), extreme(r))
		isTrue(t, "an error of Middle comes alone", e == api.OK || isZero(b))
	}
}
