package gas

import (
	"math/big"
	"math/rand"
	"testing"

	"fluxmast/api"
	"fluxmast/num"
)

// P4.1 and P4.6: dry air.

func TestMixing(t *testing.T) {
	for _, c := range []struct {
		c, t, p, e, want string
		code             api.Errno
	}{
		{"16", "300", "101300", "1532", "2/5", api.OK},
		{"8", "300", "101300", "51416", "2/5", api.OK},
		{"0", "300", "101300", "0", "0", api.OK},
		{"1", "1", "1", "0", "4157/500", api.OK},
		{"1/3", "1/2", "1", "1/2", "4157/1500", api.OK},
		{"-1/9", "300", "101300", "1532", "0", api.ErrArg},
		{"16", "0", "101300", "1532", "0", api.ErrArg},
		{"16", "-300", "101300", "1532", "0", api.ErrArg},
		{"16", "300", "101300", "-1/9", "0", api.ErrArg},
		{"16", "300", "1532", "1532", "0", api.ErrArg},
		{"16", "300", "1531", "1532", "0", api.ErrArg},
		{"16", "300", "0", "0", "0", api.ErrArg},
		{"16", "300", "-1", "-2", "0", api.ErrArg},
		{"-16", "-300", "101300", "0", "0", api.ErrArg},
	} {
		got, e := Mixing(frac(c.c), frac(c.t), frac(c.p), frac(c.e))
		isCode(t, "Mixing of "+c.c, e, c.code)
		isText(t, "Mixing of "+c.c, got.Text(), c.want)
	}
}

func TestConcentration(t *testing.T) {
	for _, c := range []struct {
		ratio, t, p, e, want string
		code                 api.Errno
	}{
		{"2/5", "300", "101300", "1532", "16", api.OK},
		{"0", "300", "101300", "0", "0", api.OK},
		{"1", "1", "1", "0", "500/4157", api.OK},
		{"-1/9", "300", "101300", "1532", "0", api.ErrArg},
		{"2/5", "0", "101300", "1532", "0", api.ErrArg},
		{"2/5", "-300", "101300", "1532", "0", api.ErrArg},
		{"2/5", "300", "101300", "-1/9", "0", api.ErrArg},
		{"2/5", "300", "1532", "1532", "0", api.ErrArg},
		{"2/5", "300", "1531", "1532", "0", api.ErrArg},
		{"2/5", "300", "-1", "-2", "0", api.ErrArg},
		{"-2/5", "-300", "101300", "0", "0", api.ErrArg},
	} {
		got, e := Concentration(frac(c.ratio), frac(c.t), frac(c.p), frac(c.e))
		isCode(t, "Concentration of "+c.ratio, e, c.code)
		isText(t, "Concentration of "+c.ratio, got.Text(), c.want)
	}
}

func TestDilute(t *testing.T) {
	for _, c := range []struct {
		c, p, e, water, want string
		code                 api.Errno
	}{
		{"16", "101300", "1532", "49884", "8", api.OK},
		{"16", "101300", "1532", "0", "16", api.OK},
		{"0", "101300", "1532", "7", "0", api.OK},
		{"1", "3", "1", "1/2", "3/4", api.OK},
		{"1", "3", "0", "2", "1/3", api.OK},
		{"-1/9", "3", "1", "1", "0", api.ErrArg},
		{"1", "3", "-1/9", "1", "0", api.ErrArg},
		{"1", "3", "1", "-1/9", "0", api.ErrArg},
		{"1", "3", "1", "2", "0", api.ErrArg},
		{"1", "3", "1", "17/8", "0", api.ErrArg},
		{"1", "3", "1", "3", "0", api.ErrArg},
		{"1", "3", "3", "0", "0", api.ErrArg},
		{"1", "3", "4", "0", "0", api.ErrArg},
		{"1", "0", "0", "0", "0", api.ErrArg},
		{"1", "3", "4", "-2", "0", api.ErrArg},
	} {
		got, e := Dilute(frac(c.c), frac(c.p), frac(c.e), frac(c.water))
		isCode(t, "Dilute of "+c.c, e, c.code)
		isText(t, "Dilute of "+c.c, got.Text(), c.want)
	}
}

// randomAir is an amount of gas, a temperature, and the pressures of all air, of vapour in it, and of two amounts of vapour more.
func randomAir(r *rand.Rand) (c, t, p, e, water, more num.Frac) {
	c, t, p = randomFrac(r).Abs(), randomAbove(r), randomAbove(r)
	third := over(p, whole(3))
	e, water, more = randomUpTo(r, third), randomUpTo(r, third), randomUpTo(r, over(third, whole(2)))
	return c, t, p, e, water, more
}

func TestAirModel(t *testing.T) {
	r := seeded()
	for range 300 {
		c, temperature, p, e, water, _ := randomAir(r)
		dry := sub(rat(p), rat(e))
		got, code := Mixing(c, temperature, p, e)
		isCode(t, "Mixing", code, api.OK)
		isRat(t, "Mixing", got, quo(mul(mul(rat(c), big.NewRat(8314, 1)), rat(temperature)), mul(big.NewRat(1000, 1), dry)))
		got, code = Dilute(c, p, e, water)
		isCode(t, "Dilute", code, api.OK)
		isRat(t, "Dilute", got, quo(mul(rat(c), sub(dry, rat(water))), dry))
	}
}

func TestVapourChangesNoRatio(t *testing.T) {
	r := seeded()
	for range 300 {
		c, temperature, p, e, water, _ := randomAir(r)
		diluted, code := Dilute(c, p, e, water)
		isCode(t, "Dilute", code, api.OK)
		before, code := Mixing(c, temperature, p, e)
		isCode(t, "Mixing", code, api.OK)
		after, code := Mixing(diluted, temperature, p, e.Add(water))
		isCode(t, "Mixing of the diluted gas", code, api.OK)
		isText(t, "Mixing of the diluted gas", after.Text(), before.Text())
	}
}

func TestConcentrationUndoesMixing(t *testing.T) {
	r := seeded()
	for range 300 {
		c, temperature, p, e, _, _ := randomAir(r)
		ratio, code := Mixing(c, temperature, p, e)
		isCode(t, "Mixing", code, api.OK)
		back, code := Concentration(ratio, temperature, p, e)
		isCode(t, "Concentration", code, api.OK)
		isText(t, "Concentration of Mixing", back.Text(), c.Text())

		amount, code := Concentration(c, temperature, p, e)
		isCode(t, "Concentration", code, api.OK)
		back, code = Mixing(amount, temperature, p, e)
		isCode(t, "Mixing", code, api.OK)
		isText(t, "Mixing of Concentration", back.Text(), c.Text())
	}
}

func TestDiluteTwice(t *testing.T) {
	r := seeded()
	for range 300 {
		c, _, p, e, water, more := randomAir(r)
		once, code := Dilute(c, p, e, water)
		isCode(t, "Dilute", code, api.OK)
		twice, code := Dilute(once, p, e.Add(water), more)
		isCode(t, "Dilute of the diluted gas", code, api.OK)
		both, code := Dilute(c, p, e, water.Add(more))
		isCode(t, "Dilute by the sum", code, api.OK)
		isText(t, "Dilute twice", twice.Text(), both.Text())
	}
}

// P1: no call panics, and an error comes alone.
func TestAnyAir(t *testing.T) {
	r := seeded()
	for range 1000 {
		l := randomFracs(r, 4)
		for _, f := range []func(a, b, c, d num.Frac) (num.Frac, api.Errno){Mixing, Concentration, Dilute} {
			if got, e := f(l[0], l[1], l[2], l[3]); e != api.OK && (e != api.ErrArg || !got.Zero()) {
				t.Fatalf("the error %d with %s", e, got.Text())
			}
		}
		if got, e := Light(l[0], l[1], l[2], l[3], extreme(r)); e != api.OK && (e != api.ErrArg || got.Text() != "[0,0]") {
			t.Fatalf("the error %d with %s", e, got.Text())
		}
	}
}
