package gas

import (
	"math"
	"math/rand"
	"testing"

	"fluxmast/api"
	"fluxmast/num"
)

// P4.1 and P4.2: light.

func TestDepth(t *testing.T) {
	top, bottom := powerOf2(64), over(whole(1), powerOf2(64))
	for _, c := range []struct {
		what        string
		zero, light num.Frac
		k           int
		want        string
		code        api.Errno
	}{
		{"a quarter", whole(4), whole(1), 2, "[5/4,3/2]", api.OK},
		{"a quarter of a part", frac("1/3"), frac("1/12"), 2, "[5/4,3/2]", api.OK},
		{"all", frac("7/3"), frac("7/3"), 9, "[0,0]", api.OK},
		{"more than all", whole(1), whole(4), 2, "[-3/2,-5/4]", api.OK},
		{"fewer than no bits", whole(4), whole(1), -5, "[1,2]", api.OK},
		{"the least", top, whole(1), 0, "[44,45]", api.OK},
		{"less than the least", top.Add(tiny()), whole(1), 0, "[0,0]", api.ErrArg},
		{"the most", bottom, whole(1), 0, "[-45,-44]", api.OK},
		{"more than the most", bottom, whole(1).Add(tiny()), 0, "[0,0]", api.ErrArg},
		{"none", whole(4), num.Frac{}, 2, "[0,0]", api.ErrArg},
		{"less than none", whole(4), whole(-1), 2, "[0,0]", api.ErrArg},
		{"some of none", num.Frac{}, whole(1), 2, "[0,0]", api.ErrArg},
		{"some of less than none", whole(-4), whole(1), 2, "[0,0]", api.ErrArg},
		{"both below 0", whole(-4), whole(-1), 2, "[0,0]", api.ErrArg},
		{"none of none", num.Frac{}, num.Frac{}, 2, "[0,0]", api.ErrArg},
	} {
		got, e := Depth(c.zero, c.light, c.k)
		isCode(t, "Depth with "+c.what, e, c.code)
		isText(t, "Depth with "+c.what, got.Text(), c.want)
	}
}

func TestDensity(t *testing.T) {
	for _, c := range []struct {
		depth, path, strength string
		k                     int
		want                  string
		code                  api.Errno
	}{
		{"1 2", "2", "1/2", 2, "[1,2]", api.OK},
		{"1 2", "3", "1", 0, "[0,1]", api.OK},
		{"1 2", "3", "1", -3, "[0,1]", api.OK},
		{"1 2", "3", "1", 2, "[1/4,3/4]", api.OK},
		{"-2 1", "1/3", "1/2", 0, "[-12,6]", api.OK},
		{"-1 -1/2", "3", "1", 1, "[-1/2,0]", api.OK},
		{"0 0", "3", "1", 5, "[0,0]", api.OK},
		{"1 2", "0", "1", 2, "[0,0]", api.ErrArg},
		{"1 2", "-1", "1", 2, "[0,0]", api.ErrArg},
		{"1 2", "1", "0", 2, "[0,0]", api.ErrArg},
		{"1 2", "1", "-1", 2, "[0,0]", api.ErrArg},
		{"1 2", "-1", "-1", 2, "[0,0]", api.ErrArg},
	} {
		got, e := Density(band(c.depth), frac(c.path), frac(c.strength), c.k)
		isCode(t, "Density of "+c.depth, e, c.code)
		isText(t, "Density of "+c.depth, got.Text(), c.want)
	}
	most, e := Density(band("1 1"), whole(3), whole(1), math.MaxInt)
	isCode(t, "Density with most bits", e, api.OK)
	isText(t, "Density with most bits", most.Width().Text(), over(whole(1), powerOf2(256)).Text())
}

func TestLight(t *testing.T) {
	for _, c := range []struct {
		zero, density, path, strength string
		k                             int
		want                          string
		code                          api.Errno
	}{
		// e^-1 is 0.3678.
		{"8", "1", "2", "1/2", 3, "[2,3]", api.OK},
		{"1/3", "1", "2", "1/2", 3, "[1/12,1/8]", api.OK},
		{"1/3", "1", "2", "1/2", -1, "[0,1/3]", api.OK},
		{"5", "0", "2", "1/2", 3, "[5,5]", api.OK},
		{"8", "64", "1", "1", 3, "[0,1]", api.OK},
		{"8", "1", "128", "1/2", 3, "[0,1]", api.OK},
		{"8", "64", "1", "1000000001/1000000000", 3, "[0,0]", api.ErrArg},
		{"8", "65", "1", "1", 3, "[0,0]", api.ErrArg},
		{"0", "1", "1", "1", 3, "[0,0]", api.ErrArg},
		{"-1", "1", "1", "1", 3, "[0,0]", api.ErrArg},
		{"8", "-1/9", "1", "1", 3, "[0,0]", api.ErrArg},
		{"8", "1", "0", "1", 3, "[0,0]", api.ErrArg},
		{"8", "1", "-1", "1", 3, "[0,0]", api.ErrArg},
		{"8", "1", "1", "0", 3, "[0,0]", api.ErrArg},
		{"8", "1", "1", "-1", 3, "[0,0]", api.ErrArg},
		{"8", "1", "-1", "-1", 3, "[0,0]", api.ErrArg},
		{"8", "-1", "-1", "1", 3, "[0,0]", api.ErrArg},
		{"8", "0", "0", "1", 3, "[0,0]", api.ErrArg},
	} {
		got, e := Light(frac(c.zero), frac(c.density), frac(c.path), frac(c.strength), c.k)
		what := "Light of " + c.zero + " through " + c.density + " " + c.path + " " + c.strength
		isCode(t, what, e, c.code)
		isText(t, what, got.Text(), c.want)
	}
}

func TestLightModel(t *testing.T) {
	r := seeded()
	for range 150 {
		zero, light, path, strength := randomAbove(r), randomAbove(r), randomAbove(r), randomAbove(r)
		density, k := randomFrac(r).Abs(), r.Intn(300)-20

		depth, e := Depth(zero, light, k)
		want, code := num.Log(over(zero, light), k)
		isCode(t, "Depth", e, code)
		isText(t, "Depth", depth.Text(), want.Text())

		depth = randomBand(r)
		factor := over(whole(1), path.Mul(strength))
		got, e := Density(depth, path, strength, k)
		isCode(t, "Density", e, api.OK)
		isText(t, "Lo of Density", got.Lo().Text(), depth.Lo().Mul(factor).Down(k).Text())
		isText(t, "Hi of Density", got.Hi().Text(), depth.Hi().Mul(factor).Up(k).Text())

		through, e := Light(zero, density, path, strength, k)
		want, code = num.Exp(strength.Mul(path).Mul(density.Neg()), k)
		isCode(t, "Light", e, code)
		isText(t, "Lo of Light", through.Lo().Text(), want.Lo().Mul(zero).Text())
		isText(t, "Hi of Light", through.Hi().Text(), want.Hi().Mul(zero).Text())
	}
}

// randomGas is a density, a path and a strength whose product is at most 60.
func randomGas(r *rand.Rand) (density, path, strength num.Frac) {
	for {
		density, path, strength = randomFrac(r).Abs(), randomAbove(r), randomAbove(r)
		if density.Mul(path).Mul(strength).Cmp(whole(60)) <= 0 {
			return density, path, strength
		}
	}
}

func TestMoreGasIsDarker(t *testing.T) {
	r := seeded()
	more := func() num.Frac { return whole(1).Add(over(randomPart(r), whole(16))) } // less than 64/60
	for range 200 {
		zero := randomAbove(r)
		density, path, strength := randomGas(r)
		k := r.Intn(40)
		light, e := Light(zero, density, path, strength, k)
		isCode(t, "Light", e, api.OK)
		for i, darker := range [][3]num.Frac{{density.Mul(more()), path, strength}, {density, path.Mul(more()), strength}, {density, path, strength.Mul(more())}} {
			got, e := Light(zero, darker[0], darker[1], darker[2], k)
			isCode(t, "Light of more", e, api.OK)
			if got.Hi().Cmp(light.Hi()) > 0 {
				t.Errorf("Light of more (%d): %s, and %s of less", i, got.Text(), light.Text())
			}
		}
	}
}

func TestLessLightIsDeeper(t *testing.T) {
	r := seeded()
	for range 200 {
		zero := randomAbove(r)
		light := zero.Mul(over(whole(1+r.Intn(200)), whole(100)))
		less := over(light, whole(1).Add(randomPart(r)))
		k := r.Intn(40)
		depth, e := Depth(zero, light, k)
		isCode(t, "Depth", e, api.OK)
		deeper, e := Depth(zero, less, k)
		isCode(t, "Depth of less", e, api.OK)
		if deeper.Lo().Cmp(depth.Lo()) < 0 {
			t.Errorf("Depth of less light: %s, and %s of more", deeper.Text(), depth.Text())
		}
	}
}

func TestDensityComesBack(t *testing.T) {
	r := seeded()
	known := 0
	for range 300 {
		zero := randomAbove(r)
		density, path, strength := randomGas(r)
		k := r.Intn(100)
		light, e := Light(zero, density, path, strength, k)
		isCode(t, "Light", e, api.OK)
		deep, e := Depth(zero, light.Lo(), k)
		flat, f := Depth(zero, light.Hi(), k)
		if e != api.OK || f != api.OK {
			continue
		}
		known++
		back, e := Density(deep.Hull(flat), path, strength, k)
		isCode(t, "Density", e, api.OK)
		if !back.Has(density) {
			t.Errorf("the density %s is not in %s", density.Text(), back.Text())
		}
	}
	isTrue(t, "most densities come back", known > 100)
}
