package num

import (
	"math"
	"math/big"
	"strings"
	"testing"

	"fluxmast/api"
)

// P1.1: the calls for fractions.

func TestIntAndNew(t *testing.T) {
	for _, c := range []struct {
		n, d int64
		want string
	}{
		{0, 5, "0"}, {0, -5, "0"}, {6, -8, "-3/4"}, {-6, -8, "3/4"}, {6, 3, "2"}, {math.MinInt64, math.MinInt64, "1"},
		{math.MinInt64, 1, "-9223372036854775808"}, {1, math.MinInt64, "-1/9223372036854775808"},
		{math.MinInt64, -1, "9223372036854775808"}, {math.MaxInt64, math.MinInt64, "-9223372036854775807/9223372036854775808"},
	} {
		x, e := New(c.n, c.d)
		isCode(t, "New", e, api.OK)
		isText(t, "New", x.Text(), c.want)
		isFrac(t, "New", x, big.NewRat(c.n, c.d))
		isFrac(t, "Int", Int(c.n), new(big.Rat).SetInt64(c.n))
	}
	x, e := New(3, 0)
	isCode(t, "New(3, 0)", e, api.ErrZero)
	isText(t, "New(3, 0)", x.Text(), "0")
}

func TestParse(t *testing.T) {
	for _, s := range []string{
		"0", "1", "-1", "10", "-1/2", "7/3", "18446744073709551616", "-18446744073709551616/18446744073709551617", "1/10000000000000000000",
		"10000000000000000000", "100000000000000000000000000000000000000", "5/9999999999999999999", "-20000000000000000000000000001/10",
	} {
		isText(t, "Parse", frac(t, s).Text(), s)
		want, _ := new(big.Rat).SetString(s)
		isFrac(t, "Parse", frac(t, s), want)
	}
	for _, s := range []string{
		"", "-", "/", "-/", "1/", "/2", "-/2", "01", "00", "-0", "-01", "0/1", "0/2", "2/4", "3/1", "1/0", "0/0", "1/01", "1/-2", "-1/-2", "+1", "1/+2",
		"--1", "1-", "1/2/3", "1//2", " 1", "1 ", "1/ 2", "1_0", "0x1", "1e3", "1.5", "½", "١", "\x00", "-20000000000000000000000000000/10",
		"1/2\n", "inf", "NaN", "[1,2]",
	} {
		x, e := Parse(s)
		isCode(t, "Parse "+s, e, api.ErrForm)
		isText(t, "Parse "+s, x.Text(), "0")
	}
}

func TestParseLong(t *testing.T) {
	most := strings.Repeat("7", api.MaxDigits)
	isText(t, "Parse of 2048 digits", frac(t, most).Text(), most)
	half := "-" + strings.Repeat("3", 1020) + "1/" + strings.Repeat("1", 1025)
	x, e := Parse(half)
	want, _ := new(big.Rat).SetString(half)
	if isText(t, "a form", want.RatString(), half); e != api.OK || x.Text() != half {
		t.Errorf("Parse of 2048 bytes: error %d", e)
	}
	for _, s := range []string{most + "7", most + "x", "-" + most, strings.Repeat("0", 2049), strings.Repeat("?", 1<<20)} {
		x, e := Parse(s)
		isCode(t, "Parse of more bytes", e, api.ErrSize)
		isText(t, "Parse of more bytes", x.Text(), "0")
	}
	_, e = Parse(strings.Repeat("x", 2048))
	isCode(t, "Parse of 2048 other bytes", e, api.ErrForm)
}

func TestArithmetic(t *testing.T) {
	r := seeded()
	for range 4000 {
		x, y := randomFrac(r), randomFrac(r)
		a, b := bigRat(x), bigRat(y)
		isFrac(t, "Add", x.Add(y), new(big.Rat).Add(a, b))
		isFrac(t, "Sub", x.Sub(y), new(big.Rat).Sub(a, b))
		isFrac(t, "Mul", x.Mul(y), new(big.Rat).Mul(a, b))
		isFrac(t, "Neg", x.Neg(), new(big.Rat).Neg(a))
		isFrac(t, "Abs", x.Abs(), new(big.Rat).Abs(a))
		isFrac(t, "Sub of itself", x.Sub(x), new(big.Rat))
		q, e := x.Div(y)
		if y.Zero() {
			isCode(t, "Div by 0", e, api.ErrZero)
			isFrac(t, "Div by 0", q, new(big.Rat))
		} else {
			isCode(t, "Div", e, api.OK)
			isFrac(t, "Div", q, new(big.Rat).Quo(a, b))
		}
		if x.Cmp(y) != a.Cmp(b) || x.Same(y) != (a.Cmp(b) == 0) || x.Sign() != a.Sign() || x.Zero() != (a.Sign() == 0) {
			t.Fatalf("comparisons of %s and %s", a, b)
		}
		isText(t, "Text", x.Text(), a.RatString())
		isFrac(t, "an argument", x, a)
		isFrac(t, "an argument", y, b)
	}
}

func TestZeroValue(t *testing.T) {
	var zero Frac
	isText(t, "0", zero.Text(), "0")
	isText(t, "0 + 1", zero.Add(Int(1)).Text(), "1")
	isText(t, "0 1", zero.Mul(Int(1)).Text(), "0")
	isText(t, "-0", zero.Neg().Text(), "0")
	isText(t, "0 in Down", zero.Down(3).Text()+zero.Up(3).Text()+zero.Floor().Text(), "000")
	if !zero.Same(Int(0)) || !zero.Same(zero.Neg()) || !zero.Same(Int(5).Sub(Int(5))) || zero.Cmp(Int(0)) != 0 || zero.Sign() != 0 {
		t.Error("0 is not the zero value")
	}
	if n, ok := zero.Whole(); n != 0 || !ok {
		t.Error("Whole of 0")
	}
}

func TestRounding(t *testing.T) {
	for _, c := range []struct {
		x        string
		k        int
		down, up string
	}{
		{"-1/2", 0, "-1", "0"}, {"1/2", 0, "0", "1"}, {"-1/3", 2, "-1/2", "-1/4"}, {"1/3", 2, "1/4", "1/2"}, {"7", 0, "7", "7"}, {"-7", 256, "-7", "-7"},
		{"3/4", 2, "3/4", "3/4"}, {"3/4", 1, "1/2", "1"}, {"-3/4", -5, "-1", "0"}, {"3/4", math.MinInt, "0", "1"}, {"1/1000000007", 20, "0", "1/1048576"},
	} {
		isText(t, "Down of "+c.x, frac(t, c.x).Down(c.k).Text(), c.down)
		isText(t, "Up of "+c.x, frac(t, c.x).Up(c.k).Text(), c.up)
	}
	isText(t, "Floor", frac(t, "-7/3").Floor().Text(), "-3")
	isText(t, "Floor", frac(t, "7/3").Floor().Text(), "2")
	isText(t, "Floor", Int(-4).Floor().Text(), "-4")
	third := frac(t, "1/3")
	for _, k := range []int{257, 1000, math.MaxInt} {
		if !third.Down(k).Same(third.Down(256)) || !third.Up(k).Same(third.Up(256)) || third.Down(k).Same(third.Down(255)) {
			t.Errorf("%d bits are not 256", k)
		}
	}
}

func TestWhole(t *testing.T) {
	for _, c := range []struct {
		x  string
		n  int64
		ok bool
	}{
		{"0", 0, true}, {"-4", -4, true}, {"1/2", 0, false}, {"-3/2", 0, false}, {"9223372036854775807", math.MaxInt64, true}, {"9223372036854775808", 0, false},
		{"-9223372036854775808", math.MinInt64, true}, {"-9223372036854775809", 0, false}, {"18446744073709551617", 0, false}, {"-18446744073709551616", 0, false},
	} {
		if n, ok := frac(t, c.x).Whole(); n != c.n || ok != c.ok {
			t.Errorf("Whole of %s: %d %v", c.x, n, ok)
		}
	}
}

// P1.2

func TestField(t *testing.T) {
	r := seeded()
	same := func(what string, x, y Frac) {
		t.Helper()
		if !x.Same(y) || x.Text() != y.Text() {
			t.Fatalf("%s: %s is not %s", what, x.Text(), y.Text())
		}
	}
	for range 2000 {
		x, y, z := randomFrac(r), randomFrac(r), randomFrac(r)
		same("Add commutes", x.Add(y), y.Add(x))
		same("Mul commutes", x.Mul(y), y.Mul(x))
		same("Add associates", x.Add(y).Add(z), x.Add(y.Add(z)))
		same("Mul associates", x.Mul(y).Mul(z), x.Mul(y.Mul(z)))
		same("Mul distributes", x.Mul(y.Add(z)), x.Mul(y).Add(x.Mul(z)))
		same("Sub undoes Add", x.Add(y).Sub(y), x)
		if q, e := x.Mul(y).Div(y); e == api.OK {
			same("Div undoes Mul", q, x)
		} else if !y.Zero() {
			t.Fatalf("Div by %s: error %d", y.Text(), e)
		}
	}
}

// P1.3

func TestOrder(t *testing.T) {
	r := seeded()
	for range 2000 {
		x, y, z := randomFrac(r), randomFrac(r), randomFrac(r)
		if x.Cmp(y) != -y.Cmp(x) || (x.Cmp(y) == 0) != x.Same(y) || x.Cmp(x) != 0 {
			t.Fatalf("Cmp of %s and %s", x.Text(), y.Text())
		}
		if x.Cmp(y) <= 0 && y.Cmp(z) <= 0 && x.Cmp(z) > 0 {
			t.Fatalf("%s, %s and %s stand in a ring", x.Text(), y.Text(), z.Text())
		}
		if x.Add(z).Cmp(y.Add(z)) != x.Cmp(y) || x.Sub(y).Sign() != x.Cmp(y) {
			t.Fatalf("%s and %s do not compare like their sums with %s", x.Text(), y.Text(), z.Text())
		}
		if z.Sign() > 0 && x.Mul(z).Cmp(y.Mul(z)) != x.Cmp(y) {
			t.Fatalf("%s and %s do not compare like their products with %s", x.Text(), y.Text(), z.Text())
		}
		k := r.Intn(300) - 20
		step := binary(false, limbs{1}, min(max(k, 0), 256))
		down, up := x.Sub(x.Down(k)), x.Up(k).Sub(x)
		if down.Sign() < 0 || up.Sign() < 0 || down.Cmp(step) >= 0 || up.Cmp(step) >= 0 {
			t.Fatalf("%s with %d bits is between %s and %s", x.Text(), k, x.Down(k).Text(), x.Up(k).Text())
		}
		for _, end := range []Frac{x.Down(k), x.Up(k)} {
			if !end.Mul(step.inverse()).Floor().Mul(step).Same(end) {
				t.Fatalf("%s is no multiple of 2^-%d", end.Text(), k)
			}
		}
	}
}

// P1.4

func TestTexts(t *testing.T) {
	r := seeded()
	for range 3000 {
		x, y := randomFrac(r), randomFrac(r)
		z, e := Parse(x.Text())
		if e != api.OK || !z.Same(x) {
			t.Fatalf("Parse of %s: %s %d", x.Text(), z.Text(), e)
		}
		if (x.Text() == y.Text()) != x.Same(y) {
			t.Fatalf("texts of %s and %s", x.Text(), y.Text())
		}
	}
	long := Int(1)
	for range 300 {
		long = long.Mul(frac(t, "1000000000000000000000000000057/1000000000000000000000000000058"))
	}
	_, e := Parse(long.Text())
	isCode(t, "Parse of a text that is too long", e, api.ErrSize)
	want, _ := new(big.Rat).SetString(long.Text())
	isFrac(t, "a long text", long, want)
}
