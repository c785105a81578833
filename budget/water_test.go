package budget_test

import (
	"math"
	"math/big"
	"math/rand"
	"slices"
	"testing"

	"fluxmast/api"
	"fluxmast/budget"
	"fluxmast/num"
)

// P9.1 and P9.6: water.

const maxRaw = 1 << 40

func cell(raw int, zero, gain string) budget.Cell {
	return budget.Cell{Raw: raw, Zero: frac(zero), Gain: frac(gain)}
}

func TestMass(t *testing.T) {
	good := cell(10, "4", "1/2")
	for _, c := range []struct {
		what string
		l    []budget.Cell
		want string
		code api.Errno
	}{
		{"two cells", []budget.Cell{good, cell(-1, "-3", "3")}, "9", api.OK},
		{"a cell without a load", []budget.Cell{cell(7, "7", "1/3")}, "0", api.OK},
		{"a cell below its zero", []budget.Cell{cell(0, "1/2", "1/3")}, "-1/6", api.OK},
		{"eight cells", slices.Repeat([]budget.Cell{good}, 8), "24", api.OK},
		{"nine cells", slices.Repeat([]budget.Cell{good}, 9), "0", api.ErrSize},
		{"nine wrong cells", make([]budget.Cell, 9), "0", api.ErrSize},
		{"no list", nil, "0", api.ErrSize},
		{"an empty list", []budget.Cell{}, "0", api.ErrSize},
		{"the greatest Raw", []budget.Cell{cell(maxRaw, "0", "1")}, "1099511627776", api.OK},
		{"the least Raw", []budget.Cell{cell(-maxRaw, "0", "1")}, "-1099511627776", api.OK},
		{"no Gain", []budget.Cell{cell(10, "4", "0")}, "0", api.ErrArg},
		{"a Gain hardly below 0", []budget.Cell{{Raw: 10, Gain: tiny().Neg()}}, "0", api.ErrArg},
		{"a last cell without a Gain", []budget.Cell{good, cell(1, "1", "0")}, "0", api.ErrArg},
		{"a first cell without a Gain", []budget.Cell{cell(1, "1", "0"), good}, "0", api.ErrArg},
		{"a Gain hardly above 0", []budget.Cell{{Raw: 1, Gain: tiny()}}, tiny().Text(), api.OK},
	} {
		got, e := budget.Mass(c.l)
		isCode(t, "Mass of "+c.what, e, c.code)
		isText(t, "Mass of "+c.what, got.Text(), c.want)
	}
	for _, n := range outside(-maxRaw, maxRaw) {
		for i := range 3 {
			got, e := budget.Mass(with([]budget.Cell{good, good, good}, i, cell(n, "4", "1/2")))
			isCode(t, "Mass of a wrong Raw", e, api.ErrArg)
			isTrue(t, "an error of Mass comes alone", got.Zero())
		}
	}
}

func TestMassModel(t *testing.T) {
	r := seeded()
	for range 300 {
		l := make([]budget.Cell, 1+r.Intn(8))
		want := new(big.Rat)
		for i := range l {
			l[i] = budget.Cell{Raw: randomInt(r, -maxRaw, maxRaw), Zero: randomFrac(r), Gain: randomAbove(r)}
			want = ratAdd(want, ratMul(ratSub(ratOf(l[i].Raw), rat(l[i].Zero)), rat(l[i].Gain)))
		}
		isRat(t, "Mass", right[num.Frac](t, "Mass")(budget.Mass(l)), want)
		isRat(t, "Mass in another order", right[num.Frac](t, "Mass")(budget.Mass(shuffled(r, l))), want)
	}
}

func TestEvaporated(t *testing.T) {
	for _, c := range []struct{ before, after, rain, drained, want string }{
		{"100", "103", "7", "1", "3"},
		{"100", "106", "7", "1", "0"},
		{"100", "99", "0", "0", "1"},
		{"100", "101", "0", "0", "-1"},
		{"0", "0", "1/2", "0", "1/2"},
		{"0", "0", "0", "1/3", "-1/3"},
		{"1/3", "1/2", "0", "0", "-1/6"},
		{"0", "0", "0", "0", "0"},
	} {
		isText(t, "Evaporated", budget.Evaporated(frac(c.before), frac(c.after), frac(c.rain), frac(c.drained)).Text(), c.want)
	}
	r := seeded()
	for range 300 {
		before, after, rain, drained := randomFrac(r), randomFrac(r), randomFrac(r), randomFrac(r)
		want := ratSub(ratSub(rat(rain), rat(drained)), ratSub(rat(after), rat(before)))
		isRat(t, "Evaporated", budget.Evaporated(before, after, rain, drained), want)
		heavier := before.Add(rain).Sub(drained)
		isTrue(t, "nothing evaporated if the column got heavier by the rain that did not drain", budget.Evaporated(before, heavier, rain, drained).Zero())
	}
}

// sapOf is Sap without an error.
func sapOf(t testing.TB, ratio, spread, distance num.Frac, k int) num.Band {
	t.Helper()
	return right[num.Band](t, "Sap")(budget.Sap(ratio, spread, distance, k))
}

func TestSap(t *testing.T) {
	most, hardly := "18446744073709551616", tiny().Neg().Text() // 2^64
	for _, c := range []struct {
		what                    string
		ratio, spread, distance string
		k                       int
		want                    string
		code                    api.Errno
	}{
		{"2", "2", "8", "2", 3, "[5/2,3]", api.OK},
		{"1/2", "1/2", "8", "2", 3, "[-3,-5/2]", api.OK},
		{"1", "1", "8", "2", 3, "[0,0]", api.OK},
		{"a short distance", "2", "1", "1/3", 3, "[15/8,9/4]", api.OK},
		{"a little spread", "2", "1/5", "1", 3, "[1/8,3/20]", api.OK},
		{"no bits", "2", "1", "1", 0, "[0,1]", api.OK},
		{"fewer bits than none", "2", "1", "1", math.MinInt, "[0,1]", api.OK},
		{"the greatest ratio", most, "1", "1", 0, "[44,45]", api.OK},
		{"the least ratio", "1/" + most, "1", "1", 0, "[-45,-44]", api.OK},
		{"a greater ratio", most + "1/10", "1", "1", 0, "[0,0]", api.ErrArg},
		{"a lesser ratio", "1/18446744073709551617", "1", "1", 0, "[0,0]", api.ErrArg},
		{"the ratio 0", "0", "1", "2", 3, "[0,0]", api.ErrArg},
		{"a ratio below 0", "-2", "1", "2", 3, "[0,0]", api.ErrArg},
		{"no spread", "2", "0", "2", 3, "[0,0]", api.ErrArg},
		{"a spread hardly below 0", "2", hardly, "2", 3, "[0,0]", api.ErrArg},
		{"no spread, and the ratio 1", "1", "0", "2", 3, "[0,0]", api.ErrArg},
		{"no distance", "2", "1", "0", 3, "[0,0]", api.ErrArg},
		{"a distance hardly below 0", "2", "1", hardly, 3, "[0,0]", api.ErrArg},
		{"both below 0", "2", "-1", "-1", 3, "[0,0]", api.ErrArg},
		{"no distance, and the ratio 0", "0", "1", "0", 3, "[0,0]", api.ErrArg},
	} {
		got, e := budget.Sap(frac(c.ratio), frac(c.spread), frac(c.distance), c.k)
		isCode(t, "Sap of "+c.what, e, c.code)
		isText(t, "Sap of "+c.what, got.Text(), c.want)
	}
	for _, k := range []int{256, 257, math.MaxInt} {
		width := new(big.Rat).SetFrac(big.NewInt(3), new(big.Int).Lsh(big.NewInt(1), 256))
		isRat(t, "Sap with the most bits", sapOf(t, num.Int(2), num.Int(3), num.Int(1), k).Width(), width)
	}
}

func TestSapModel(t *testing.T) {
	r := seeded()
	for range 300 {
		ratio, _ := num.New(1+r.Int63n(1<<r.Intn(40)), 1+r.Int63n(1<<r.Intn(40)))
		spread, distance, k := randomAbove(r), randomAbove(r), []int{r.Intn(10), r.Intn(257), extreme(r)}[r.Intn(3)]
		got := sapOf(t, ratio, spread, distance, k)
		log := right[num.Band](t, "Log")(num.Log(ratio, k))
		speed := ratQuo(rat(spread), rat(distance))
		isRat(t, "the Lo of Sap", got.Lo(), ratMul(speed, rat(log.Lo())))
		isRat(t, "the Hi of Sap", got.Hi(), ratMul(speed, rat(log.Hi())))
		inverse, _ := num.Int(1).Div(ratio)
		isText(t, "Sap of the inverse", sapOf(t, inverse, spread, distance, k).Text(), got.Neg().Text())
		isText(t, "Sap of 1", sapOf(t, num.Int(1), spread, distance, k).Text(), "[0,0]")
	}
}

func TestWaterKeepsItsArguments(t *testing.T) {
	l, same := behind(t, []budget.Cell{cell(10, "4", "1/2"), cell(-1, "-3", "3")}, cell(7, "7", "7"), func(a, b budget.Cell) bool {
		return a.Raw == b.Raw && a.Zero.Same(b.Zero) && a.Gain.Same(b.Gain)
	})
	for range 2 {
		isText(t, "Mass", right[num.Frac](t, "Mass")(budget.Mass(l)).Text(), "9")
	}
	same()
}

func randomCells(r *rand.Rand) []budget.Cell {
	l := make([]budget.Cell, r.Intn(10))
	for i := range l {
		l[i] = budget.Cell{Raw: extreme(r), Zero: randomFrac(r), Gain: randomFrac(r)}
	}
	return l
}

// P1: no call panics, and an error comes alone.
func TestAnyWater(t *testing.T) {
	r := seeded()
	for range 1000 {
		mass, e := budget.Mass(randomCells(r))
		isTrue(t, "an error of Mass comes alone", e == api.OK || mass.Zero())
		sap, e := budget.Sap(randomFrac(r), randomFrac(r), randomFrac(r), extreme(r))
		isTrue(t, "an error of Sap comes alone", e == api.OK || sap.Lo().Zero() && sap.Hi().Zero())
	}
}
