package fill_test

import (
	"math"
	"math/big"
	"math/rand"
	"slices"
	"testing"

	"fluxmast/api"
	"fluxmast/fill"
	"fluxmast/num"
)

// P8.1 and P8.4: gaps.

// hour is a half hour that is known.
func hour(day, slot, light, temp int, flux string) fill.Hour {
	return fill.Hour{Day: day, Slot: slot, Light: light, Temp: temp, Flux: frac(flux), Known: true}
}

// gap is a half hour that is not.
func gap(day, slot, light, temp int) fill.Hour {
	return fill.Hour{Day: day, Slot: slot, Light: light, Temp: temp}
}

func rule(days, slots, light, temp int) fill.Rule {
	return fill.Rule{Days: days, Slots: slots, Light: light, Temp: temp}
}

var widest = rule(366, 47, 4000, 2000)

func nearOf(t testing.TB, l []fill.Hour, at int, r fill.Rule) []int {
	t.Helper()
	return right[[]int](t, "Near")(fill.Near(l, at, r))
}

// slowNear tries the slots of the day, of the one ahead and of the next one.
func slowNear(l []fill.Hour, at int, r fill.Rule) []int {
	near := func(a, b, most int) bool { return a-b <= most && b-a <= most }
	h := l[at]
	var all []int
	for i, o := range l {
		slots := near(h.Slot, o.Slot, r.Slots) || near(h.Slot, o.Slot+48, r.Slots) || near(h.Slot, o.Slot-48, r.Slots)
		if o.Known && i != at && slots && near(h.Day, o.Day, r.Days) && near(h.Light, o.Light, r.Light) && near(h.Temp, o.Temp, r.Temp) {
			all = append(all, i)
		}
	}
	return all
}

// slowGuess returns the mean, the least and the greatest flux of the neighbours.
func slowGuess(l []fill.Hour, at int, r fill.Rule, least int) (mean, lo, hi *big.Rat, ok bool) {
	var fluxes []*big.Rat
	for _, i := range slowNear(l, at, r) {
		x := rat(l[i].Flux)
		fluxes = append(fluxes, x)
		if lo == nil || x.Cmp(lo) < 0 {
			lo = x
		}
		if hi == nil || x.Cmp(hi) > 0 {
			hi = x
		}
	}
	if len(fluxes) < least {
		return nil, nil, nil, false
	}
	return ratMean(fluxes), lo, hi, true
}

// randomHours is half hours of a few days with a weather that is often alike.
func randomHours(r *rand.Rand, count int) []fill.Hour {
	days, weather := 1+r.Intn(6), 1+r.Intn(20)
	if r.Intn(4) == 0 {
		days, weather = 367, 1000
	}
	first := r.Intn(368 - days)
	times := r.Perm(48 * days)[:min(count, 48*days)]
	slices.Sort(times)
	l := make([]fill.Hour, len(times))
	for i, time := range times {
		l[i] = gap(first+time/48, time%48, r.Intn(weather), r.Intn(2*weather)-weather)
		if r.Intn(3) > 0 {
			l[i].Known, l[i].Flux = true, randomFrac(r)
		}
	}
	return l
}

func randomRule(r *rand.Rand) fill.Rule {
	return rule([]int{r.Intn(3), r.Intn(367)}[r.Intn(2)], r.Intn(48), []int{r.Intn(20), r.Intn(4001)}[r.Intn(2)], []int{r.Intn(40), r.Intn(2001)}[r.Intn(2)])
}

// wider is a rule that is wider, or the same.
func wider(r *rand.Rand, x fill.Rule) fill.Rule {
	return rule(x.Days+r.Intn(367-x.Days), x.Slots+r.Intn(48-x.Slots), x.Light+r.Intn(4001-x.Light), x.Temp+r.Intn(2001-x.Temp))
}

func TestNear(t *testing.T) {
	l := []fill.Hour{
		hour(0, 0, 0, -1000, "1"), hour(0, 47, 0, -999, "2"), gap(1, 0, 0, -998), hour(1, 1, 0, 1000, "3"),
		hour(1, 23, 4000, 0, "4"), hour(1, 24, 3999, 0, "5"), hour(1, 25, 0, 0, "6"), hour(366, 47, 0, 0, "7"),
	}
	for _, c := range []struct {
		what string
		at   int
		r    fill.Rule
		want []int
	}{
		{"a rule for nothing but the same", 2, rule(0, 0, 0, 0), nil},
		{"all", 2, widest, []int{0, 1, 3, 4, 5, 6, 7}},
		{"all but itself", 4, widest, []int{0, 1, 3, 5, 6, 7}},
		{"the same day", 2, rule(0, 47, 4000, 2000), []int{3, 4, 5, 6}},
		{"the day ahead, too", 2, rule(1, 47, 4000, 2000), []int{0, 1, 3, 4, 5, 6}},
		{"nearly a year", 2, rule(364, 47, 4000, 2000), []int{0, 1, 3, 4, 5, 6}},
		{"a year", 2, rule(365, 47, 4000, 2000), []int{0, 1, 3, 4, 5, 6, 7}},
		{"a whole year", 0, rule(366, 1, 4000, 2000), []int{1, 3, 7}},
		{"hardly less", 0, rule(365, 1, 4000, 2000), []int{1, 3}},
		{"the same slot", 2, rule(366, 0, 4000, 2000), []int{0}},
		{"a slot around the day", 2, rule(366, 1, 4000, 2000), []int{0, 1, 3, 7}},
		{"two slots around the day", 3, rule(366, 2, 4000, 2000), []int{0, 1, 7}},
		{"nearly half a day", 2, rule(366, 23, 4000, 2000), []int{0, 1, 3, 4, 6, 7}},
		{"half a day", 2, rule(366, 24, 4000, 2000), []int{0, 1, 3, 4, 5, 6, 7}},
		{"the same light", 4, rule(366, 47, 0, 2000), nil},
		{"nearly the same light", 4, rule(366, 47, 1, 2000), []int{5}},
		{"nearly any light", 4, rule(366, 47, 3999, 2000), []int{5}},
		{"any light", 4, rule(366, 47, 4000, 2000), []int{0, 1, 3, 5, 6, 7}},
		{"the same warmth", 0, rule(366, 47, 4000, 0), nil},
		{"nearly the same warmth", 0, rule(366, 47, 4000, 1), []int{1}},
		{"nearly any warmth", 0, rule(366, 47, 4000, 1999), []int{1, 4, 5, 6, 7}},
		{"a warmth from both sides", 4, rule(366, 47, 4000, 999), []int{1, 5, 6, 7}},
	} {
		isList(t, "Near for "+c.what, nearOf(t, l, c.at, c.r), c.want)
	}
	isList(t, "Near of one", nearOf(t, l[:1], 0, widest), nil)
	for i := range 24 { // no two slots are farther apart than half a day
		for _, slots := range []int{i, i + 1, 48 - i - 1} {
			l := []fill.Hour{hour(3, 0, 0, 0, "1"), hour(3, 48-i-1, 0, 0, "1")}
			want := []int{1}
			if slots < i+1 {
				want = nil
			}
			isList(t, "Near around the day", nearOf(t, l, 0, rule(0, slots, 0, 0)), want)
		}
	}
}

func TestNearModel(t *testing.T) {
	r := seeded()
	found := 0
	for range 500 {
		l, x := randomHours(r, 1+r.Intn(48)), randomRule(r)
		for at := range l {
			got := nearOf(t, l, at, x)
			isList(t, "Near", got, slowNear(l, at, x))
			found += len(got)
			for _, i := range got {
				isTrue(t, "who is known is near, too", !l[at].Known || slices.Contains(nearOf(t, l, i, x), at))
			}
		}
	}
	isTrue(t, "there are many neighbours", found > 5000)
}

func TestGuess(t *testing.T) {
	l := []fill.Hour{hour(5, 10, 0, 0, "1"), gap(5, 11, 0, 0), hour(5, 12, 0, 0, "3"), hour(5, 13, 0, 0, "-1/2")}
	for _, c := range []struct {
		what        string
		at          int
		r           fill.Rule
		least       int
		mean, reach string
		code        api.Errno
	}{
		{"the example", 1, rule(0, 1, 0, 0), 1, "2", "[1,3]", api.OK},
		{"as many as are needed", 1, rule(0, 1, 0, 0), 2, "2", "[1,3]", api.OK},
		{"more than there are", 1, rule(0, 1, 0, 0), 3, "0", "[0,0]", api.ErrNone},
		{"one more", 1, rule(0, 2, 0, 0), 3, "7/6", "[-1/2,3]", api.OK},
		{"the most that may be needed", 1, rule(0, 2, 0, 0), 48, "0", "[0,0]", api.ErrNone},
		{"no neighbours", 1, rule(0, 0, 0, 0), 1, "0", "[0,0]", api.ErrNone},
		{"a half hour that is known", 2, rule(0, 1, 0, 0), 1, "-1/2", "[-1/2,-1/2]", api.OK},
	} {
		mean, reach, e := fill.Guess(l, c.at, c.r, c.least)
		isCode(t, "Guess of "+c.what, e, c.code)
		isText(t, "Guess of "+c.what, mean.Text(), c.mean)
		isText(t, "the band of Guess of "+c.what, reach.Text(), c.reach)
	}
	// All others of the most half hours.
	var many []fill.Hour
	for i := range 48 {
		many = append(many, hour(0, i, 0, 0, "1"))
	}
	mean, _, e := fill.Guess(many, 20, widest, 47)
	isCode(t, "Guess by 47", e, api.OK)
	isText(t, "Guess by 47", mean.Text(), "1")
	_, _, e = fill.Guess(many, 20, widest, 48)
	isCode(t, "Guess by 48", e, api.ErrNone)
}

func TestGuessModel(t *testing.T) {
	r := seeded()
	for range 300 {
		l, x, least := randomHours(r, 1+r.Intn(48)), randomRule(r), 1+r.Intn(3)
		for at := range l {
			mean, reach, e := fill.Guess(l, at, x, least)
			want, lo, hi, ok := slowGuess(l, at, x, least)
			if !ok {
				isCode(t, "Guess", e, api.ErrNone)
				isTrue(t, "Guess has zero values", mean.Zero() && isZero(reach))
				continue
			}
			isCode(t, "Guess", e, api.OK)
			isRat(t, "Guess", mean, want)
			isBand(t, "the band of Guess", reach, lo, hi)
			isTrue(t, "the mean lies in the band", reach.Has(mean))
		}
	}
}

func TestWiderRules(t *testing.T) {
	r := seeded()
	for range 300 {
		l, x := randomHours(r, 1+r.Intn(48)), randomRule(r)
		y := wider(r, x)
		for at := range l {
			near := nearOf(t, l, at, y)
			for _, i := range nearOf(t, l, at, x) {
				isTrue(t, "a wider rule has the neighbours of the other one", slices.Contains(near, i))
			}
			_, a, e := fill.Guess(l, at, x, 1)
			_, b, f := fill.Guess(l, at, y, 1)
			isTrue(t, "a wider rule has a wider band", e != api.OK || f == api.OK && a.In(b))
		}
	}
}

func TestFill(t *testing.T) {
	l := []fill.Hour{hour(5, 10, 0, 0, "1"), gap(5, 11, 0, 0), hour(5, 12, 0, 0, "3"), gap(5, 20, 0, 0), hour(6, 46, 9, 9, "9")}
	all := []fill.Rule{rule(0, 0, 0, 0), rule(0, 1, 0, 0), rule(1, 13, 9, 9), rule(0, 24, 0, 0)}
	for _, c := range []struct {
		what  string
		rules []fill.Rule
		least int
		reach []string
		by    []int
	}{
		{"one neighbour", all, 1, []string{"[1,1]", "[1,3]", "[3,3]", "[1,3]", "[9,9]"}, []int{-1, 1, -1, 2, -1}},
		{"two neighbours", all, 2, []string{"[1,1]", "[1,3]", "[3,3]", "[1,3]", "[9,9]"}, []int{-1, 1, -1, 2, -1}},
		{"a wide rule ahead", []fill.Rule{widest, all[1]}, 3, []string{"[1,1]", "[1,9]", "[3,3]", "[1,9]", "[9,9]"}, []int{-1, 0, -1, 0, -1}},
		{"a rule twice", []fill.Rule{all[0], all[3], all[3]}, 1, []string{"[1,1]", "[1,3]", "[3,3]", "[1,3]", "[9,9]"}, []int{-1, 1, -1, 1, -1}},
		{"a last rule", []fill.Rule{all[0], all[1], widest}, 3, []string{"[1,1]", "[1,9]", "[3,3]", "[1,9]", "[9,9]"}, []int{-1, 2, -1, 2, -1}},
		{"eight rules", append(slices.Repeat(all[:1], 7), widest), 1, []string{"[1,1]", "[1,9]", "[3,3]", "[1,9]", "[9,9]"}, []int{-1, 7, -1, 7, -1}},
	} {
		bands, by, e := fill.Fill(l, c.rules, c.least)
		isCode(t, "Fill with "+c.what, e, api.OK)
		var texts []string
		for _, b := range bands {
			texts = append(texts, b.Text())
		}
		isList(t, "the bands with "+c.what, texts, c.reach)
		isList(t, "the rules with "+c.what, by, c.by)
	}
	bands, by, e := fill.Fill(l, all[:2], 2)
	isCode(t, "Fill with a gap without neighbours", e, api.ErrNone)
	isTrue(t, "Fill has zero values with a gap without neighbours", len(bands) == 0 && len(by) == 0)
	bands, by, e = fill.Fill(l[:1], all[:2], 48)
	isCode(t, "Fill without a gap", e, api.OK)
	isTrue(t, "Fill without a gap", len(bands) == 1 && bands[0].Text() == "[1,1]" && slices.Equal(by, []int{-1}))
}

func TestFillModel(t *testing.T) {
	r := seeded()
	filled, not := 0, 0
	for range 400 {
		l, least := randomHours(r, 1+r.Intn(48)), 1+r.Intn(3)
		rules := make([]fill.Rule, 1+r.Intn(8))
		for i := range rules {
			rules[i] = randomRule(r)
		}
		bands, by, e := fill.Fill(l, rules, least)
		want := api.OK
		for at, h := range l {
			found, lo, hi := -1, rat(h.Flux), rat(h.Flux)
			if !h.Known {
				found = slices.IndexFunc(rules, func(x fill.Rule) bool { return len(slowNear(l, at, x)) >= least })
				if found < 0 {
					want = api.ErrNone
					continue
				}
				_, lo, hi, _ = slowGuess(l, at, rules[found], least)
			}
			if e == api.OK {
				isInt(t, "the rule", by[at], found)
				isBand(t, "the band", bands[at], lo, hi)
			}
		}
		isCode(t, "Fill", e, want)
		if e != api.OK {
			not++
			isTrue(t, "Fill has zero values", len(bands) == 0 && len(by) == 0)
			continue
		}
		filled++
		total := right[num.Band](t, "Total")(fill.Total(bands))
		for range 5 {
			var sum num.Frac
			for _, b := range bands {
				sum = sum.Add(randomIn(r, b))
			}
			isTrue(t, "the sum lies in Total", total.Has(sum))
		}
	}
	isTrue(t, "many lists are filled, and many are not", filled > 50 && not > 50)
}

// Errors.

type hoursCase struct {
	what string
	l    []fill.Hour
	want api.Errno
}

func hoursCases() []hoursCase {
	var all []fill.Hour
	for i := range 49 {
		all = append(all, hour(i/48, i%48, 0, 0, "1"))
	}
	last := func(h fill.Hour) []fill.Hour { return []fill.Hour{hour(0, 0, 0, 0, "1"), hour(0, 1, 0, 0, "1"), h} }
	unknown := gap(5, 5, 5, 5)
	unknown.Flux = frac("-1/" + tenPower(40))
	cases := []hoursCase{
		{"48 half hours", all[:48], api.OK},
		{"49 half hours", all, api.ErrSize},
		{"49 times the same that is none", slices.Repeat([]fill.Hour{gap(-1, 0, 0, 0)}, 49), api.ErrSize},
		{"no list", nil, api.ErrSize},
		{"an empty list", []fill.Hour{}, api.ErrSize},
		{"the ends of all", []fill.Hour{gap(0, 0, 0, -1000), hour(366, 47, 4000, 1000, "0")}, api.OK},
		{"a gap with a flux", last(unknown), api.ErrArg},
		{"a gap with a flux ahead", []fill.Hour{unknown, gap(6, 0, 0, 0)}, api.ErrArg},
		{"the same slot twice", last(hour(0, 1, 0, 0, "1")), api.ErrOrder},
		{"a slot behind", last(hour(0, 0, 9, 9, "2")), api.ErrOrder},
		{"a day behind", []fill.Hour{hour(6, 1, 0, 0, "1"), hour(5, 47, 0, 0, "1")}, api.ErrOrder},
		{"a day on with a lesser slot", []fill.Hour{hour(5, 47, 0, 0, "1"), hour(6, 0, 0, 0, "1")}, api.OK},
		{"an order ahead of an argument", []fill.Hour{gap(1, 1, 0, 0), gap(1, 1, 0, 0), gap(1, 48, 0, 0)}, api.ErrOrder},
		{"an argument ahead of an order", []fill.Hour{gap(1, 1, 4001, 0), gap(1, 1, 0, 0)}, api.ErrArg},
		{"an argument and an order at once", []fill.Hour{gap(1, 1, 0, 0), gap(1, 1, 4001, 0)}, api.ErrArg},
	}
	for _, c := range []struct {
		name   string
		of     func(n int) fill.Hour
		lo, hi int
	}{
		{"Day", func(n int) fill.Hour { return gap(n, 2, 0, 0) }, 0, 366},
		{"Slot", func(n int) fill.Hour { return gap(0, n, 0, 0) }, 0, 47},
		{"Light", func(n int) fill.Hour { return gap(0, 2, n, 0) }, 0, 4000},
		{"Temp", func(n int) fill.Hour { return gap(0, 2, 0, n) }, -1000, 1000},
	} {
		for _, n := range []int{c.lo - 1, c.hi + 1, math.MinInt, math.MinInt + 1, math.MaxInt} {
			cases = append(cases,
				hoursCase{"a first " + c.name, []fill.Hour{c.of(n), hour(366, 47, 0, 0, "1")}, api.ErrArg},
				hoursCase{"a last " + c.name, last(c.of(n)), api.ErrArg})
		}
		cases = append(cases,
			hoursCase{"the least " + c.name, []fill.Hour{c.of(c.lo)}, api.OK},
			hoursCase{"the greatest " + c.name, []fill.Hour{c.of(c.hi)}, api.OK})
	}
	return cases
}

// ruleCases is rules, and whether they are none.
func ruleCases() map[fill.Rule]api.Errno {
	cases := map[fill.Rule]api.Errno{{}: api.OK, widest: api.OK}
	for _, c := range []struct {
		of func(n int) fill.Rule
		hi int
	}{
		{func(n int) fill.Rule { return rule(n, 1, 1, 1) }, 366},
		{func(n int) fill.Rule { return rule(1, n, 1, 1) }, 47},
		{func(n int) fill.Rule { return rule(1, 1, n, 1) }, 4000},
		{func(n int) fill.Rule { return rule(1, 1, 1, n) }, 2000},
	} {
		for _, n := range []int{-1, c.hi + 1, math.MinInt, math.MaxInt} {
			cases[c.of(n)] = api.ErrArg
		}
		cases[c.of(0)], cases[c.of(c.hi)] = api.OK, api.OK
	}
	return cases
}

// firstOf is the first code that is an error.
func firstOf(codes ...api.Errno) api.Errno {
	for _, e := range codes {
		if e != api.OK {
			return e
		}
	}
	return api.OK
}

// limits is the error of a number that has to be from lo to hi.
func limits(n, lo, hi int) api.Errno {
	if n < lo || n > hi {
		return api.ErrArg
	}
	return api.OK
}

func TestGapErrors(t *testing.T) {
	ats := []int{0, -1, 48, math.MaxInt, math.MinInt}
	leasts := []int{1, 48, 0, -1, 49, math.MaxInt, math.MinInt}
	for _, c := range hoursCases() {
		for r, rule := range ruleCases() {
			for _, at := range append(ats, len(c.l)-1, len(c.l)) {
				want := firstOf(c.want, rule, limits(at, 0, len(c.l)-1))
				near, e := fill.Near(c.l, at, r)
				isCode(t, "Near with "+c.what, e, want)
				isTrue(t, "Near has a zero value with "+c.what, e == api.OK || len(near) == 0)
				for _, least := range leasts {
					want := firstOf(want, limits(least, 1, 48))
					if want == api.OK && len(near) < least {
						want = api.ErrNone
					}
					mean, reach, e := fill.Guess(c.l, at, r, least)
					isCode(t, "Guess with "+c.what, e, want)
					isTrue(t, "Guess has zero values with "+c.what, e == api.OK || mean.Zero() && isZero(reach))
				}
			}
		}
	}
}

func TestFillErrors(t *testing.T) {
	good, bad := widest, rule(0, 48, 0, 0)
	for _, c := range hoursCases() {
		for _, rules := range []struct {
			l    []fill.Rule
			want api.Errno
		}{
			{nil, api.ErrSize},
			{[]fill.Rule{}, api.ErrSize},
			{slices.Repeat([]fill.Rule{good}, 9), api.ErrSize},
			{slices.Repeat([]fill.Rule{bad}, 9), api.ErrSize},
			{[]fill.Rule{bad}, api.ErrArg},
			{[]fill.Rule{bad, good}, api.ErrArg},
			{append(slices.Repeat([]fill.Rule{good}, 7), bad), api.ErrArg},
			{slices.Repeat([]fill.Rule{good}, 8), api.OK},
		} {
			for _, least := range []int{1, 48, 0, -1, 49, math.MaxInt, math.MinInt} {
				want := firstOf(c.want, rules.want, limits(least, 1, 48))
				gaps := slices.ContainsFunc(c.l, func(h fill.Hour) bool { return !h.Known })
				known := slices.ContainsFunc(c.l, func(h fill.Hour) bool { return h.Known })
				if want == api.OK && gaps && (!known || least > 1) {
					want = api.ErrNone
				}
				bands, by, e := fill.Fill(c.l, rules.l, least)
				isCode(t, "Fill with "+c.what, e, want)
				isTrue(t, "Fill has zero values with "+c.what, e == api.OK || len(bands) == 0 && len(by) == 0)
			}
		}
	}
	for r, want := range ruleCases() {
		_, _, e := fill.Fill([]fill.Hour{hour(0, 0, 0, 0, "1")}, []fill.Rule{good, r, good}, 1)
		isCode(t, "Fill with a rule", e, want)
	}
}

func TestGapsKeepTheirArguments(t *testing.T) {
	l, same := behind(t, []fill.Hour{hour(5, 10, 0, 0, "1"), gap(5, 11, 0, 0), hour(5, 12, 0, 0, "3")}, hour(7, 7, 7, 7, "7"), sameHour)
	rules, sameRules := behind(t, []fill.Rule{rule(0, 0, 0, 0), rule(0, 1, 0, 0)}, rule(7, 7, 7, 7), func(a, b fill.Rule) bool { return a == b })
	for range 2 { // twice, as nothing is kept
		near := nearOf(t, l, 1, rules[1])
		isList(t, "Near", near, []int{0, 2})
		scribble(near, 9)
		_, reach, e := fill.Guess(l, 1, rules[1], 1)
		isCode(t, "Guess", e, api.OK)
		isText(t, "Guess", reach.Text(), "[1,3]")
		bands, by, e := fill.Fill(l, rules, 1)
		isCode(t, "Fill", e, api.OK)
		isText(t, "Fill", bands[1].Text(), "[1,3]")
		isList(t, "Fill", by, []int{-1, 1, -1})
		scribble(bands, only("9"))
		scribble(by, 9)
	}
	same()
	sameRules()
}

// P1: no call panics, and an error comes alone.
func TestAnyHours(t *testing.T) {
	r := seeded()
	for range 3000 {
		l, x := randomHours(r, r.Intn(50)), randomRule(r)
		if len(l) > 0 && r.Intn(2) == 0 {
			l[r.Intn(len(l))] = gap(extreme(r), extreme(r), extreme(r), extreme(r))
		}
		if r.Intn(4) == 0 {
			x = rule(extreme(r), extreme(r), extreme(r), extreme(r))
		}
		at, least := extreme(r), extreme(r)
		near, e := fill.Near(l, at, x)
		isTrue(t, "an error of Near comes alone", e == api.OK || len(near) == 0)
		mean, reach, e := fill.Guess(l, at, x, least)
		isTrue(t, "an error of Guess comes alone", e == api.OK || mean.Zero() && isZero(reach))
		bands, by, e := fill.Fill(l, []fill.Rule{x, widest}, least)
		isTrue(t, "an error of Fill comes alone", e == api.OK || len(bands) == 0 && len(by) == 0)
	}
}
