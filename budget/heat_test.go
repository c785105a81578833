package budget_test

import (
	"math"
	"math/big"
	"math/rand"
	"slices"
	"testing"

	"fluxmast/api"
	"fluxmast/budget"
	"fluxmast/num"
)

// P9.1 and P9.2: heat.

const maxFlux = 1 << 30

// fluxes is the fluxes of five numbers: Net, Ground, Store, Sensible and Latent.
func fluxes(l ...int) budget.Fluxes {
	return budget.Fluxes{Net: l[0], Ground: l[1], Store: l[2], Sensible: l[3], Latent: l[4]}
}

func available(f budget.Fluxes) int { return f.Net - f.Ground - f.Store }
func measured(f budget.Fluxes) int  { return f.Sensible + f.Latent }

func randomFluxes(r *rand.Rand, count int) []budget.Fluxes {
	l := make([]budget.Fluxes, count)
	for i := range l {
		l[i] = fluxes(randomInts(r, 5, -maxFlux, maxFlux)...)
	}
	return l
}

// closed is fluxes in which nothing is missing.
func closed(r *rand.Rand, count int) []budget.Fluxes {
	l := make([]budget.Fluxes, count)
	for i := range l {
		sensible, latent, ground := randomInt(r, -1000, 1000), randomInt(r, -1000, 1000), randomInt(r, -1000, 1000)
		store := randomInt(r, -1000, 1000)
		l[i] = fluxes(sensible+latent+ground+store, ground, store, sensible, latent)
	}
	return l
}

// slowRatio adds the heat of all runs.
func slowRatio(l []budget.Fluxes) (*big.Rat, bool) {
	top, bottom := new(big.Rat), new(big.Rat)
	for _, f := range l {
		top, bottom = ratAdd(top, ratOf(measured(f))), ratAdd(bottom, ratOf(available(f)))
	}
	if bottom.Sign() == 0 {
		return new(big.Rat), false
	}
	return ratQuo(top, bottom), true
}

// slowSlope adds the products of both.
func slowSlope(l []budget.Fluxes) (*big.Rat, bool) {
	top, bottom := new(big.Rat), new(big.Rat)
	for _, f := range l {
		a := ratOf(available(f))
		top, bottom = ratAdd(top, ratMul(a, ratOf(measured(f)))), ratAdd(bottom, ratMul(a, a))
	}
	if bottom.Sign() == 0 {
		return new(big.Rat), false
	}
	return ratQuo(top, bottom), true
}

// squares is the sum of the squares that a slope leaves.
func squares(l []budget.Fluxes, slope *big.Rat) *big.Rat {
	sum := new(big.Rat)
	for _, f := range l {
		rest := ratSub(ratOf(measured(f)), ratMul(slope, ratOf(available(f))))
		sum = ratAdd(sum, ratMul(rest, rest))
	}
	return sum
}

func TestNet(t *testing.T) {
	for _, c := range []struct {
		in   [4]int
		want int
	}{
		{[4]int{500, 100, 300, 400}, 300},
		{[4]int{1, 0, 0, 0}, 1},
		{[4]int{0, 1, 0, 0}, -1},
		{[4]int{0, 0, 1, 0}, 1},
		{[4]int{0, 0, 0, 1}, -1},
		{[4]int{}, 0},
		{[4]int{maxFlux, 0, maxFlux, 0}, 1 << 31},
		{[4]int{0, maxFlux, 0, maxFlux}, -1 << 31},
	} {
		got := right[int](t, "Net")(budget.Net(c.in[0], c.in[1], c.in[2], c.in[3]))
		isInt(t, "Net", got, c.want)
	}
	for i := range 4 {
		for _, n := range outside(0, maxFlux) {
			in := [4]int{5, 6, 7, 8}
			in[i] = n
			got, e := budget.Net(in[0], in[1], in[2], in[3])
			isCode(t, "Net of a wrong number", e, api.ErrArg)
			isInt(t, "Net of a wrong number", got, 0)
		}
	}
}

func TestResidual(t *testing.T) {
	for _, c := range []struct {
		f    budget.Fluxes
		want int
	}{
		{fluxes(500, 50, 20, 200, 180), 50},
		{fluxes(500, 50, 20, 230, 200), 0},
		{fluxes(500, 50, 20, 300, 180), -50},
		{fluxes(-60, -20, -5, -30, -10), 5},
		{fluxes(1, 0, 0, 0, 0), 1},
		{fluxes(0, 1, 0, 0, 0), -1},
		{fluxes(0, 0, 1, 0, 0), -1},
		{fluxes(0, 0, 0, 1, 0), -1},
		{fluxes(0, 0, 0, 0, 1), -1},
		{fluxes(maxFlux, -maxFlux, -maxFlux, -maxFlux, -maxFlux), 5 * maxFlux},
		{fluxes(-maxFlux, maxFlux, maxFlux, maxFlux, maxFlux), -5 * maxFlux},
	} {
		isInt(t, "Residual", right[int](t, "Residual")(budget.Residual(c.f)), c.want)
	}
	r := seeded()
	for _, f := range slices.Concat(randomFluxes(r, 300), closed(r, 300)) {
		got := right[int](t, "Residual")(budget.Residual(f))
		isInt(t, "Residual", got, available(f)-measured(f))
		isTrue(t, "Residual is 0 exactly if the measured heat is the available one", (got == 0) == (available(f) == measured(f)))
		if f.Sensible < maxFlux {
			more := f
			more.Sensible += r.Intn(maxFlux - f.Sensible)
			isInt(t, "Residual with more sensible heat", right[int](t, "Residual")(budget.Residual(more)), got-(more.Sensible-f.Sensible))
		}
	}
}

// wrongFluxes is fluxes of which one is too great.
func wrongFluxes() []budget.Fluxes {
	var l []budget.Fluxes
	for i := range 5 {
		for _, n := range outside(-maxFlux, maxFlux) {
			l = append(l, fluxes(with([]int{5, 6, 7, 8, 9}, i, n)...))
		}
	}
	return l
}

func TestWrongFluxes(t *testing.T) {
	good, dark := fluxes(500, 50, 20, 200, 180), budget.Fluxes{Sensible: 7}
	for _, f := range wrongFluxes() {
		n, e := budget.Residual(f)
		isCode(t, "Residual of a wrong number", e, api.ErrArg)
		isInt(t, "Residual of a wrong number", n, 0)
		for _, c := range []struct {
			l    []budget.Fluxes
			want api.Errno
		}{
			{[]budget.Fluxes{f}, api.ErrArg},
			{[]budget.Fluxes{good, good, f}, api.ErrArg},
			{[]budget.Fluxes{f, good}, api.ErrArg},
			{[]budget.Fluxes{dark, f}, api.ErrArg},
			{with(slices.Repeat([]budget.Fluxes{good}, 48), 47, f), api.ErrArg},
			{with(slices.Repeat([]budget.Fluxes{good}, 49), 0, f), api.ErrSize},
			{with(slices.Repeat([]budget.Fluxes{good}, 49), 48, f), api.ErrSize},
		} {
			ratio, e := budget.Ratio(c.l)
			isCode(t, "Ratio of a wrong number", e, c.want)
			isTrue(t, "Ratio has a zero value", ratio.Zero())
			slope, e := budget.Slope(c.l)
			isCode(t, "Slope of a wrong number", e, c.want)
			isTrue(t, "Slope has a zero value", slope.Zero())
		}
	}
}

func TestRatioAndSlope(t *testing.T) {
	f := fluxes(500, 50, 20, 200, 180)
	for _, c := range []struct {
		what         string
		l            []budget.Fluxes
		ratio, slope string
		of, by       api.Errno
	}{
		{"the example", []budget.Fluxes{f}, "38/43", "38/43", api.OK, api.OK},
		{"the example again and again", slices.Repeat([]budget.Fluxes{f}, 48), "38/43", "38/43", api.OK, api.OK},
		{"the example too often", slices.Repeat([]budget.Fluxes{f}, 49), "0", "0", api.ErrSize, api.ErrSize},
		{"no list", nil, "0", "0", api.ErrSize, api.ErrSize},
		{"an empty list", []budget.Fluxes{}, "0", "0", api.ErrSize, api.ErrSize},
		{"two runs", []budget.Fluxes{{Net: 1, Latent: 1}, {Net: 3, Sensible: 1}}, "1/2", "2/5", api.OK, api.OK},
		{"a night", []budget.Fluxes{{Net: -10, Sensible: -4}, {Net: 30, Sensible: 6}}, "1/10", "11/50", api.OK, api.OK},
		{"a sum of 0", []budget.Fluxes{{Net: 5, Latent: 1}, {Ground: 5, Sensible: 3}}, "0", "-1/5", api.ErrZero, api.OK},
		{"a sum of 0 of each run", []budget.Fluxes{{Net: 5, Store: 5, Latent: 1}, {Sensible: 3}}, "0", "0", api.ErrZero, api.ErrZero},
		{"nothing that was measured", []budget.Fluxes{{Net: 5, Sensible: 3, Latent: -3}, {Net: 7}}, "0", "0", api.OK, api.OK},
		{"a slope below 0", []budget.Fluxes{{Net: 2, Latent: -3}}, "-3/2", "-3/2", api.OK, api.OK},
	} {
		ratio, e := budget.Ratio(c.l)
		isCode(t, "Ratio of "+c.what, e, c.of)
		isText(t, "Ratio of "+c.what, ratio.Text(), c.ratio)
		slope, e := budget.Slope(c.l)
		isCode(t, "Slope of "+c.what, e, c.by)
		isText(t, "Slope of "+c.what, slope.Text(), c.slope)
	}
	// The squares of the greatest heat leave an int.
	most := fluxes(maxFlux, -maxFlux, -maxFlux, maxFlux, maxFlux)
	isText(t, "Slope of the greatest heat", right[num.Frac](t, "Slope")(budget.Slope(slices.Repeat([]budget.Fluxes{most}, 48))).Text(), "2/3")
}

func TestRatioAndSlopeModel(t *testing.T) {
	r := seeded()
	zeros := 0
	for range 500 {
		l := randomFluxes(r, 1+r.Intn(48))
		if r.Intn(4) == 0 {
			l = randomFluxes(r, 1+r.Intn(3))
			for i := range l {
				l[i].Ground, l[i].Store = r.Intn(3), 0
				l[i].Net = l[i].Ground
			}
		}
		want, ok := slowRatio(l)
		got, e := budget.Ratio(l)
		isTrue(t, "Ratio is an error just without available heat", ok == (e == api.OK) && (ok || e == api.ErrZero))
		isRat(t, "Ratio", got, want)
		want, ok = slowSlope(l)
		got, e = budget.Slope(l)
		isTrue(t, "Slope is an error just without available heat", ok == (e == api.OK) && (ok || e == api.ErrZero))
		isRat(t, "Slope", got, want)
		if !ok {
			zeros++
			continue
		}
		least := squares(l, want)
		for range 5 {
			other := ratAdd(want, rat(randomFrac(r)))
			isTrue(t, "no slope leaves less", squares(l, other).Cmp(least) >= 0)
		}
		isTrue(t, "no slope close by leaves less", squares(l, ratAdd(want, rat(tiny()))).Cmp(least) > 0)
		isTrue(t, "no slope close by leaves less", squares(l, ratSub(want, rat(tiny()))).Cmp(least) > 0)
	}
	isTrue(t, "some runs have no available heat, and many have", zeros > 20 && zeros < 250)
}

func TestClosedRuns(t *testing.T) {
	r := seeded()
	for range 300 {
		l := closed(r, 1+r.Intn(48))
		if x, e := budget.Ratio(l); e != api.ErrZero {
			isCode(t, "Ratio of closed runs", e, api.OK)
			isText(t, "Ratio of closed runs", x.Text(), "1")
		}
		if x, e := budget.Slope(l); e != api.ErrZero {
			isCode(t, "Slope of closed runs", e, api.OK)
			isText(t, "Slope of closed runs", x.Text(), "1")
		}
	}
}

func TestStorage(t *testing.T) {
	hardly := tiny().Neg().Text()
	for _, c := range []struct {
		heat, depth, before, after string
		seconds                    int
		want                       string
		code                       api.Errno
	}{
		{"1200", "1/2", "280", "283", 1800, "1", api.OK},
		{"1200", "1/2", "283", "280", 1800, "-1", api.OK},
		{"1200", "1/2", "283", "283", 1800, "0", api.OK},
		{"0", "1/2", "280", "283", 1800, "0", api.OK},
		{"1200", "0", "280", "283", 1800, "0", api.OK},
		{"2/3", "5/7", "-1/2", "1/3", 1, "25/63", api.OK},
		{"1", "1", "0", "1", 86400, "1/86400", api.OK},
		{"1", "1", "0", "1", 86401, "0", api.ErrArg},
		{"1", "1", "0", "1", 0, "0", api.ErrArg},
		{"1", "1", "0", "1", -1, "0", api.ErrArg},
		{"1", "1", "0", "1", math.MinInt, "0", api.ErrArg},
		{"1", "1", "0", "1", math.MaxInt, "0", api.ErrArg},
		{hardly, "1", "0", "1", 1, "0", api.ErrArg},
		{"1", hardly, "0", "1", 1, "0", api.ErrArg},
		{"-1", "-1", "0", "1", 1, "0", api.ErrArg},
		{"-1", "0", "0", "0", 1, "0", api.ErrArg},
		{"0", "-1", "0", "0", 1, "0", api.ErrArg},
	} {
		got, e := budget.Storage(frac(c.heat), frac(c.depth), frac(c.before), frac(c.after), c.seconds)
		isCode(t, "Storage", e, c.code)
		isText(t, "Storage", got.Text(), c.want)
	}
	r := seeded()
	for range 300 {
		heat, depth, before, after := randomFrac(r).Abs(), randomFrac(r).Abs(), randomFrac(r), randomFrac(r)
		seconds := 1 + r.Intn(86400)
		got := right[num.Frac](t, "Storage")(budget.Storage(heat, depth, before, after, seconds))
		want := ratQuo(ratMul(ratMul(rat(heat), rat(depth)), ratSub(rat(after), rat(before))), ratOf(seconds))
		isRat(t, "Storage", got, want)
		back := right[num.Frac](t, "Storage")(budget.Storage(heat, depth, after, before, seconds))
		isText(t, "Storage back", back.Text(), got.Neg().Text())
	}
}

func TestHeatKeepsItsArguments(t *testing.T) {
	l, same := behind(t, []budget.Fluxes{{Net: 1, Latent: 1}, {Net: 3, Sensible: 1}}, budget.Fluxes{Net: 77}, equal)
	for range 2 {
		isText(t, "Ratio", right[num.Frac](t, "Ratio")(budget.Ratio(l)).Text(), "1/2")
		isText(t, "Slope", right[num.Frac](t, "Slope")(budget.Slope(l)).Text(), "2/5")
	}
	same()
}

// P1: no call panics, and an error comes alone.
func TestAnyHeat(t *testing.T) {
	r := seeded()
	for range 3000 {
		n := extremes(r, 5)
		net, e := budget.Net(n[0], n[1], n[2], n[3])
		isTrue(t, "an error of Net comes alone", e == api.OK || net == 0)
		l := []budget.Fluxes{fluxes(n...), fluxes(extremes(r, 5)...)}
		rest, f := budget.Residual(l[0])
		isTrue(t, "an error of Residual comes alone", f == api.OK || rest == 0)
		_, other := budget.Residual(l[1])
		ratio, e := budget.Ratio(l)
		isTrue(t, "an error of Ratio comes alone", e == api.OK || ratio.Zero())
		isTrue(t, "Ratio has the errors of both", (e == api.ErrArg) == (f == api.ErrArg || other == api.ErrArg))
		slope, e := budget.Slope(l)
		isTrue(t, "an error of Slope comes alone", e == api.OK || slope.Zero())
		isTrue(t, "Slope has the errors of both", (e == api.ErrArg) == (f == api.ErrArg || other == api.ErrArg))
		stored, e := budget.Storage(randomFrac(r), randomFrac(r), randomFrac(r), randomFrac(r), n[4])
		isTrue(t, "an error of Storage comes alone", e == api.OK || stored.Zero())
	}
}
