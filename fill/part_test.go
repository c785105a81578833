package fill_test

import (
	"math"
	"math/big"
	"math/rand"
	"testing"

	"fluxmast/api"
	"fluxmast/fill"
	"fluxmast/num"
)

// P8.1 and P8.6: parts.

func soil(base, rise string) fill.Soil   { return fill.Soil{Base: frac(base), Rise: frac(rise)} }
func plant(rise, most string) fill.Plant { return fill.Plant{Rise: frac(rise), Most: frac(most)} }

// slowBreath returns Base times the power at both ends.
func slowBreath(s fill.Soil, temp num.Band, k int) (lo, hi *big.Rat) {
	lo, _ = slowExp(ratMul(rat(s.Rise), rat(temp.Lo())), k)
	_, hi = slowExp(ratMul(rat(s.Rise), rat(temp.Hi())), k)
	return ratMul(rat(s.Base), lo), ratMul(rat(s.Base), hi)
}

func slowGrowth(p fill.Plant, light num.Frac) *big.Rat {
	if light.Zero() {
		return new(big.Rat)
	}
	rise := ratMul(rat(p.Rise), rat(light))
	return ratQuo(ratMul(rise, rat(p.Most)), ratAdd(rise, rat(p.Most)))
}

// randomSoil is one with a Rise of at most 3/2.
func randomSoil(r *rand.Rand) fill.Soil {
	rise, _ := num.New(r.Int63n(151), 100)
	return fill.Soil{Base: randomFrac(r).Abs(), Rise: rise}
}

// randomTemp is a temperature from -40 to 40.
func randomTemp(r *rand.Rand) num.Frac {
	d := 1 + r.Int63n(1<<r.Intn(40))
	n := min(40*d, math.MaxInt64/2)
	temp, _ := num.New(r.Int63n(2*n+1)-n, d)
	return temp
}

func randomTemps(r *rand.Rand) num.Band {
	return num.Only(randomTemp(r)).Hull(num.Only(randomTemp(r)))
}

func randomBits(r *rand.Rand) int {
	return []int{r.Intn(10), r.Intn(257), extreme(r)}[r.Intn(3)]
}

func breathOf(t testing.TB, s fill.Soil, temp num.Band, k int) num.Band {
	t.Helper()
	return right[num.Band](t, "Breath")(fill.Breath(s, temp, k))
}

func growthOf(t testing.TB, p fill.Plant, light num.Frac) num.Frac {
	t.Helper()
	return right[num.Frac](t, "Growth")(fill.Growth(p, light))
}

func TestBreath(t *testing.T) {
	far := tenPower(300)
	for _, c := range []struct {
		what string
		s    fill.Soil
		temp num.Band
		k    int
		want string
		code api.Errno
	}{
		{"the example", soil("2", "0"), band("5 9"), 4, "[2,2]", api.OK},
		{"no Rise at any temperature", soil("2/3", "0"), band("-" + far + " " + far), 4, "[2/3,2/3]", api.OK},
		{"two temperatures", soil("4", "1"), band("1 2"), 2, "[10,30]", api.OK},
		{"one temperature", soil("1", "1"), only("1"), 3, "[21/8,11/4]", api.OK},
		{"the temperature 0", soil("7", "9"), only("0"), 3, "[7,7]", api.OK},
		{"temperatures around 0", soil("8", "1/2"), band("-2 2"), 3, "[2,22]", api.OK}, // 2/8, and 22/8
		{"temperatures up to 0", soil("8", "1/2"), band("-2 0"), 3, "[2,8]", api.OK},
		{"a Base of 0", soil("0", "1/2"), band("-2 2"), 3, "[0,0]", api.OK},
		{"no bits", soil("10", "1"), only("1"), 0, "[20,30]", api.OK},
		{"fewer bits than none", soil("10", "1"), only("1"), -5, "[20,30]", api.OK},
		{"the fewest bits", soil("10", "1"), only("1"), math.MinInt, "[20,30]", api.OK},
		{"the coldest", soil("1", "1"), only("-64"), 3, "[0,1/8]", api.OK},
		{"the coldest by the Rise", soil("1", "32"), only("-2"), 3, "[0,1/8]", api.OK},
		{"a Base below 0", soil("-1/"+far, "1"), only("1"), 3, "[0,0]", api.ErrArg},
		{"a Rise below 0", soil("1", "-1/"+far), only("1"), 3, "[0,0]", api.ErrArg},
		{"both below 0", soil("-1", "-1"), only("0"), 3, "[0,0]", api.ErrArg},
		{"a Hi too warm", soil("1", "1"), band("0 65"), 3, "[0,0]", api.ErrArg},
		{"a Hi hardly too warm", soil("1", "1"), band("0 64" + far[1:] + "1/1" + far[1:]), 3, "[0,0]", api.ErrArg},
		{"a Lo too cold", soil("1", "2"), band("-33 0"), 3, "[0,0]", api.ErrArg},
		{"a Base of 0 and a Hi too warm", soil("0", "1"), band("0 65"), 3, "[0,0]", api.ErrArg},
		{"a Rise too great", soil("1", far), only("1"), 3, "[0,0]", api.ErrArg},
	} {
		got, e := fill.Breath(c.s, c.temp, c.k)
		isCode(t, "Breath of "+c.what, e, c.code)
		isText(t, "Breath of "+c.what, got.Text(), c.want)
	}
	most, e := fill.Breath(soil("1", "1"), only("64"), 0)
	isCode(t, "Breath of the warmest", e, api.OK)
	isText(t, "Breath of the warmest", most.Text(), "[6235149080811616882909238708,6235149080811616882909238709]")
	for _, k := range []int{256, 257, math.MaxInt} {
		isText(t, "Breath with the most bits", breathOf(t, soil("3", "1"), only("1"), k).Width().Text(), "3/"+power2(256).String())
	}
}

func TestBreathModel(t *testing.T) {
	r := seeded()
	for range 500 {
		s, temps, k := randomSoil(r), randomTemps(r), randomBits(r)
		got := breathOf(t, s, temps, k)
		lo, hi := slowBreath(s, temps, k)
		isBand(t, "Breath", got, lo, hi)
		// What lies in the temperatures has its power in the band.
		temp := randomIn(r, temps)
		isTrue(t, "a temperature in the band", breathOf(t, s, num.Only(temp), k).In(got))
		lo, hi = slowBreath(s, num.Only(temp), 256)
		if k < 250 {
			isTrue(t, "the true value lies in the band", rat(got.Lo()).Cmp(lo) <= 0 && hi.Cmp(rat(got.Hi())) <= 0)
		}
		isTrue(t, "Breath is not below 0", got.Lo().Sign() >= 0)
		// It does not fall with the temperature.
		warmer := num.Only(temp.Add(randomShare(r)))
		more := breathOf(t, s, warmer, k)
		less := breathOf(t, s, num.Only(temp), k)
		isTrue(t, "Breath does not fall", less.Lo().Cmp(more.Lo()) <= 0 && less.Hi().Cmp(more.Hi()) <= 0)
	}
}

func TestGrowth(t *testing.T) {
	for _, c := range []struct {
		what  string
		p     fill.Plant
		light string
		want  string
		code  api.Errno
	}{
		{"the example", plant("1", "10"), "10", "5", api.OK},
		{"no light", plant("1", "10"), "0", "0", api.OK},
		{"little light", plant("1/2", "10"), "1/5", "10/101", api.OK},
		{"much light", plant("1", "10"), tenPower(9), "1000000000/100000001", api.OK},
		{"a Rise of 0", plant("0", "10"), "1", "0", api.ErrArg},
		{"a Rise below 0", plant("-1", "10"), "1", "0", api.ErrArg},
		{"a Rise below 0 in the dark", plant("-1", "10"), "0", "0", api.ErrArg},
		{"a Most of 0", plant("1", "0"), "1", "0", api.ErrArg},
		{"a Most of 0 in the dark", plant("1", "0"), "0", "0", api.ErrArg},
		{"a Most below 0", plant("1", "-10"), "1", "0", api.ErrArg},
		{"a Most that would be no quotient", plant("1", "-10"), "10", "0", api.ErrArg},
		{"a light below 0", plant("1", "10"), "-1/" + tenPower(50), "0", api.ErrArg},
		{"a light that would be no quotient", plant("1", "10"), "-10", "0", api.ErrArg},
		{"no plant", fill.Plant{}, "0", "0", api.ErrArg},
	} {
		got, e := fill.Growth(c.p, frac(c.light))
		isCode(t, "Growth with "+c.what, e, c.code)
		isText(t, "Growth with "+c.what, got.Text(), c.want)
	}
}

func TestGrowthModel(t *testing.T) {
	r := seeded()
	for range 1000 {
		p, light := fill.Plant{Rise: randomAbove(r), Most: randomAbove(r)}, randomFrac(r).Abs()
		got := growthOf(t, p, light)
		isRat(t, "Growth", got, slowGrowth(p, light))
		isTrue(t, "Growth is never above Most, nor below 0", got.Cmp(p.Most) <= 0 && got.Sign() >= 0)
		more := growthOf(t, p, light.Add(randomFrac(r).Abs()))
		isTrue(t, "Growth does not fall", got.Cmp(more) <= 0)
	}
}

func TestParted(t *testing.T) {
	for _, c := range []struct{ flux, breath, want string }{
		{"-3 -1", "4 5", "[5,8]"},
		{"1 1", "4 4", "[3,3]"},
		{"0 7", "0 0", "[-7,0]"},
		{"1/2 2/3", "1/3 1/2", "[-1/3,0]"},
	} {
		isText(t, "Parted", fill.Parted(band(c.flux), band(c.breath)).Text(), c.want)
	}
	r := seeded()
	for range 300 {
		flux, breath := randomBand(r), randomBand(r)
		got := fill.Parted(flux, breath)
		isBand(t, "Parted", got, ratSub(rat(breath.Lo()), rat(flux.Hi())), ratSub(rat(breath.Hi()), rat(flux.Lo())))
		x, y := randomIn(r, flux), randomIn(r, breath)
		isTrue(t, "what numbers of both give lies in Parted", got.Has(y.Sub(x)))
		// Photosynthesis of single numbers and the flux give the respiration back, and respiration less photosynthesis is the flux.
		part := fill.Parted(num.Only(x), num.Only(y))
		isText(t, "Parted and the flux", part.Add(num.Only(x)).Text(), num.Only(y).Text())
		isText(t, "the respiration less Parted", num.Only(y).Sub(part).Text(), num.Only(x).Text())
		isTrue(t, "a number of the respiration lies in the sum", breath.In(got.Add(flux)))
	}
}

func TestDiffer(t *testing.T) {
	cold, warm := band("0 1"), band("0 65")
	for _, c := range []struct {
		what  string
		flux  string
		s     fill.Soil
		p     fill.Plant
		temp  num.Band
		light string
		want  string
		code  api.Errno
	}{
		{"both ways alike", "-3", soil("2", "0"), plant("1", "10"), cold, "10", "[0,0]", api.OK},
		{"less light", "-3", soil("2", "0"), plant("1", "10"), cold, "0", "[5,5]", api.OK},
		{"a flux above 0", "4", soil("2", "0"), plant("1", "10"), cold, "10", "[-7,-7]", api.OK},
		{"a temperature", "0", soil("8", "1"), plant("1", "10"), cold, "10", "[3,17]", api.OK}, // 8 and 22
		{"a Base below 0", "0", soil("-2", "0"), plant("1", "10"), cold, "10", "[0,0]", api.ErrArg},
		{"a Rise below 0", "0", soil("2", "-1"), plant("1", "10"), cold, "10", "[0,0]", api.ErrArg},
		{"a temperature too high", "0", soil("2", "1"), plant("1", "10"), warm, "10", "[0,0]", api.ErrArg},
		{"a Rise of the plant of 0", "0", soil("2", "1"), plant("0", "10"), cold, "10", "[0,0]", api.ErrArg},
		{"a Most of 0", "0", soil("2", "1"), plant("1", "0"), cold, "10", "[0,0]", api.ErrArg},
		{"a light below 0", "0", soil("2", "1"), plant("1", "10"), cold, "-1", "[0,0]", api.ErrArg},
	} {
		got, e := fill.Differ(frac(c.flux), c.s, c.p, c.temp, frac(c.light), 3)
		isCode(t, "Differ of "+c.what, e, c.code)
		isText(t, "Differ of "+c.what, got.Text(), c.want)
	}
	r := seeded()
	for range 300 {
		flux, s, temps, k := randomFrac(r), randomSoil(r), randomTemps(r), randomBits(r)
		p, light := fill.Plant{Rise: randomAbove(r), Most: randomAbove(r)}, randomFrac(r).Abs()
		got := right[num.Band](t, "Differ")(fill.Differ(flux, s, p, temps, light, k))
		lo, hi := slowBreath(s, temps, k)
		less := ratAdd(rat(flux), slowGrowth(p, light))
		isBand(t, "Differ", got, ratSub(lo, less), ratSub(hi, less))
	}
}

// P1: no call panics, and an error comes alone.
func TestAnyParts(t *testing.T) {
	r := seeded()
	for range 2000 {
		s := fill.Soil{Base: randomFrac(r), Rise: randomFrac(r)}
		p := fill.Plant{Rise: randomFrac(r), Most: randomFrac(r)}
		temp, light, k := randomBand(r), randomFrac(r), extreme(r)
		breath, e := fill.Breath(s, temp, k)
		isTrue(t, "an error of Breath comes alone", e == api.OK || isZero(breath))
		growth, f := fill.Growth(p, light)
		isTrue(t, "an error of Growth comes alone", f == api.OK || growth.Zero())
		got, g := fill.Differ(light, s, p, temp, light, k)
		isTrue(t, "an error of Differ comes alone", g == api.OK || isZero(got))
		isCode(t, "Differ has the errors of both", g, firstOf(e, f))
	}
}
