package fill_test

import (
	"math"
	"math/big"
	"slices"
	"testing"

	"fluxmast/api"
	"fluxmast/fill"
	"fluxmast/num"
)

// P8.1 and P8.7: years.

// slowSpread adds all products, pair by pair.
func slowSpread(l []num.Frac, most num.Frac, k int) (lo, hi *big.Rat) {
	sum := new(big.Rat)
	for i, x := range l {
		for j, y := range l {
			product := ratMul(rat(x), rat(y))
			if i != j {
				product = ratMul(product, rat(most))
			}
			sum = ratAdd(sum, product)
		}
	}
	return slowRoot(sum, k)
}

func spreadOf(t testing.TB, l []num.Frac, most num.Frac, k int) num.Band {
	t.Helper()
	return right[num.Band](t, "Spread")(fill.Spread(l, most, k))
}

func TestTotal(t *testing.T) {
	for _, c := range []struct {
		what string
		l    []num.Band
		want string
		code api.Errno
	}{
		{"no list", nil, "[0,0]", api.OK},
		{"an empty list", []num.Band{}, "[0,0]", api.OK},
		{"one band", []num.Band{band("-1/3 7")}, "[-1/3,7]", api.OK},
		{"two bands", []num.Band{band("1 2"), band("-4 0")}, "[-3,2]", api.OK},
		{"48 bands", slices.Repeat([]num.Band{band("-1/48 1/6")}, 48), "[-1,8]", api.OK},
		{"49 bands", slices.Repeat([]num.Band{band("-1/48 1/6")}, 49), "[0,0]", api.ErrSize},
	} {
		got, e := fill.Total(c.l)
		isCode(t, "Total of "+c.what, e, c.code)
		isText(t, "Total of "+c.what, got.Text(), c.want)
	}
	r := seeded()
	for range 200 {
		l := make([]num.Band, r.Intn(49))
		lo, hi, sum := new(big.Rat), new(big.Rat), num.Frac{}
		for i := range l {
			l[i] = randomBand(r)
			lo, hi = ratAdd(lo, rat(l[i].Lo())), ratAdd(hi, rat(l[i].Hi()))
			sum = sum.Add(randomIn(r, l[i]))
		}
		got := right[num.Band](t, "Total")(fill.Total(l))
		isBand(t, "Total", got, lo, hi)
		isTrue(t, "the sum of numbers of the bands lies in Total", got.Has(sum))
	}
}

func TestSpread(t *testing.T) {
	for _, c := range []struct {
		numbers, most string
		k             int
		want          string
	}{
		{"3 4", "0", 0, "[5,5]"},
		{"3 4", "1", 0, "[7,7]"},
		{"3 4", "1/2", 0, "[6,7]"},
		{"3 4", "1/2", 1, "[6,13/2]"}, // the root of 37 is 6.08..
		{"3 4", "11/24", 0, "[6,6]"},
		{"3 4", "1/2", -7, "[6,7]"},
		{"3 4", "1/2", math.MinInt, "[6,7]"},
		{"4 3", "1/2", 2, "[6,25/4]"},
		{"", "0", 3, "[0,0]"},
		{"", "1", 3, "[0,0]"},
		{"7/8", "1/2", 3, "[7/8,7/8]"},
		{"7/8", "1/2", 2, "[3/4,1]"},
		{"0 0", "1", 2, "[0,0]"},
		{"1 1 1 1", "0", 0, "[2,2]"},
		{"1 1 1 1", "1", 0, "[4,4]"},
		{"1 1 1 1", "5/12", 0, "[3,3]"}, // 4, and 12 times 5/12
		{"1 2 3", "1/11", 0, "[4,4]"},   // 14, and 22 times 1/11
	} {
		isText(t, "Spread of "+c.numbers, spreadOf(t, fracs(c.numbers), frac(c.most), c.k).Text(), c.want)
	}
	for _, k := range []int{256, 257, math.MaxInt} {
		isText(t, "Spread with the most bits", spreadOf(t, fracs("3 4"), frac("1/2"), k).Width().Text(), "1/"+power2(256).String())
	}
}

func TestSpreadErrors(t *testing.T) {
	many, below := make([]num.Frac, 49), fracs("1 2 -1/1000000000000000000000")
	for _, c := range []struct {
		what string
		l    []num.Frac
		most string
		want api.Errno
	}{
		{"48 numbers", many[:48], "1", api.OK},
		{"49 numbers", many, "1", api.ErrSize},
		{"49 numbers below 0", slices.Repeat(below[2:], 49), "2", api.ErrSize},
		{"a last number below 0", below, "1", api.ErrArg},
		{"a first number below 0", fracs("-1 2"), "0", api.ErrArg},
		{"no number, and a most above 1", nil, "2", api.ErrArg},
		{"a most hardly above 1", fracs("1 2"), "1000000000000000000001/1000000000000000000000", api.ErrArg},
		{"a most below 0", fracs("1 2"), "-1/1000000000000000000000", api.ErrArg},
		{"a number and a most below 0", below, "-1", api.ErrArg},
	} {
		got, e := fill.Spread(c.l, frac(c.most), 3)
		isCode(t, "Spread with "+c.what, e, c.want)
		isTrue(t, "Spread has a zero value with "+c.what, e == api.OK || isZero(got))
	}
}

func TestSpreadModel(t *testing.T) {
	r := seeded()
	for range 300 {
		l := make([]num.Frac, r.Intn(12))
		if r.Intn(10) == 0 {
			l = make([]num.Frac, 48)
		}
		sum := num.Frac{}
		for i := range l {
			l[i] = randomFrac(r).Abs()
			sum = sum.Add(l[i])
		}
		most, k := randomShare(r), randomBits(r)
		got := spreadOf(t, l, most, k)
		lo, hi := slowSpread(l, most, k)
		isBand(t, "Spread", got, lo, hi)
		least, greatest := spreadOf(t, l, num.Frac{}, k), spreadOf(t, l, num.Int(1), k)
		isTrue(t, "Spread with 0 is at most another one", least.Lo().Cmp(got.Lo()) <= 0 && least.Hi().Cmp(got.Hi()) <= 0)
		isTrue(t, "Spread with 1 has the sum", greatest.Has(sum))
		isTrue(t, "Spread is not above the sum", got.Lo().Cmp(sum) <= 0)
		// The variance with any correlations whose absolute values are at most most.
		variance := new(big.Rat)
		for i, x := range l {
			variance = ratAdd(variance, ratMul(rat(x), rat(x)))
			for _, y := range l[:i] {
				correlation := ratMul(rat(most), ratSub(ratMul(ratOf(2), rat(randomShare(r))), ratOf(1)))
				variance = ratAdd(variance, ratMul(ratMul(ratOf(2), correlation), ratMul(rat(x), rat(y))))
			}
		}
		isTrue(t, "no variance is above the square of Hi", variance.Cmp(ratMul(rat(got.Hi()), rat(got.Hi()))) <= 0)
	}
}

func TestYearsKeepTheirArguments(t *testing.T) {
	bands, same := behind(t, []num.Band{band("1 2"), band("-4 0")}, only("77"), sameBand)
	l, sameNumbers := behind(t, fracs("3 4"), num.Int(77), num.Frac.Same)
	for range 2 {
		isText(t, "Total", right[num.Band](t, "Total")(fill.Total(bands)).Text(), "[-3,2]")
		isText(t, "Spread", spreadOf(t, l, num.Int(1), 2).Text(), "[7,7]")
	}
	same()
	sameNumbers()
}
