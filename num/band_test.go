package num

import (
	"math"
	"testing"

	"fluxmast/api"
)

// P1.1: the calls for bands.

func TestMakeBands(t *testing.T) {
	x, e := Make(Int(2), Int(1))
	noBand(t, "Make of 2, 1", x, e, api.ErrOrder)
	x, e = Make(frac(t, "-1/2"), frac(t, "1/3"))
	isBand(t, "Make", x, e, "[-1/2,1/3]")
	isText(t, "Lo", x.Lo().Text(), "-1/2")
	isText(t, "Hi", x.Hi().Text(), "1/3")
	isText(t, "Width", x.Width().Text(), "5/6")
	x, e = Make(Int(7), Int(7))
	isBand(t, "Make of one number", x, e, "[7,7]")
	isText(t, "Only", Only(frac(t, "-7/3")).Text(), "[-7/3,-7/3]")
	isText(t, "the zero value", Band{}.Text(), "[0,0]")
	isText(t, "the zero value plus [1,2]", Band{}.Add(band(t, "1", "2")).Text(), "[1,2]")
}

func TestBandArithmetic(t *testing.T) {
	for _, c := range []struct{ what, got, want string }{
		{"Add", band(t, "-1", "2").Add(band(t, "1/2", "3")).Text(), "[-1/2,5]"},
		{"Sub", band(t, "1", "2").Sub(band(t, "1", "4")).Text(), "[-3,1]"},
		{"Sub of itself", band(t, "1", "2").Sub(band(t, "1", "2")).Text(), "[-1,1]"},
		{"Neg", band(t, "-1", "2").Neg().Text(), "[-2,1]"},
		{"Mul", band(t, "-1", "2").Mul(band(t, "-1", "2")).Text(), "[-2,4]"},
		{"Mul", band(t, "1", "2").Mul(band(t, "3", "5")).Text(), "[3,10]"},
		{"Mul", band(t, "-2", "-1").Mul(band(t, "3", "5")).Text(), "[-10,-3]"},
		{"Mul", band(t, "-2", "-1").Mul(band(t, "-5", "-3")).Text(), "[3,10]"},
		{"Mul", band(t, "-2", "1").Mul(band(t, "-5", "-3")).Text(), "[-5,10]"},
		{"Mul", band(t, "-2", "3").Mul(band(t, "-5", "7")).Text(), "[-15,21]"},
		{"Mul", band(t, "-2", "3").Mul(band(t, "0", "0")).Text(), "[0,0]"},
		{"Square", band(t, "-1", "2").Square().Text(), "[0,4]"},
		{"Square", band(t, "-3", "2").Square().Text(), "[0,9]"},
		{"Square", band(t, "-3", "-2").Square().Text(), "[4,9]"},
		{"Square", band(t, "2", "3").Square().Text(), "[4,9]"},
		{"Square", band(t, "0", "3").Square().Text(), "[0,9]"},
		{"Square", band(t, "-3", "0").Square().Text(), "[0,9]"},
		{"Round", band(t, "-1/3", "1/3").Round(2).Text(), "[-1/2,1/2]"},
		{"Round", band(t, "1/3", "1/3").Round(-9).Text(), "[0,1]"},
		{"Round", band(t, "1/4", "3/4").Round(2).Text(), "[1/4,3/4]"},
		{"Hull", band(t, "1", "3").Hull(band(t, "4", "5")).Text(), "[1,5]"},
		{"Hull", band(t, "4", "5").Hull(band(t, "1", "3")).Text(), "[1,5]"},
		{"Hull", band(t, "1", "5").Hull(band(t, "2", "3")).Text(), "[1,5]"},
	} {
		isText(t, c.what, c.got, c.want)
	}
	third := Only(frac(t, "1/3"))
	if third.Round(math.MaxInt).Text() != third.Round(256).Text() || third.Round(256).Text() == third.Round(255).Text() {
		t.Error("Round with more than 256 bits")
	}
}

func TestDivideBands(t *testing.T) {
	for _, c := range []struct{ x, y, want [2]string }{
		{[2]string{"1", "2"}, [2]string{"-4", "-2"}, [2]string{"-1", "-1/4"}},
		{[2]string{"1", "2"}, [2]string{"4", "5"}, [2]string{"1/5", "1/2"}},
		{[2]string{"-1", "2"}, [2]string{"1/3", "5"}, [2]string{"-3", "6"}},
		{[2]string{"0", "0"}, [2]string{"4", "5"}, [2]string{"0", "0"}},
	} {
		q, e := band(t, c.x[0], c.x[1]).Div(band(t, c.y[0], c.y[1]))
		isBand(t, "Div", q, e, "["+c.want[0]+","+c.want[1]+"]")
	}
	for _, y := range []Band{{}, band(t, "0", "2"), band(t, "-2", "0"), band(t, "-1", "1")} {
		q, e := band(t, "1", "2").Div(y)
		noBand(t, "Div by "+y.Text(), q, e, api.ErrZero)
	}
}

func TestBandComparisons(t *testing.T) {
	x := band(t, "1", "3")
	for _, c := range []struct {
		y   string
		has bool
	}{{"1", true}, {"3", true}, {"2", true}, {"999/1000", false}, {"3001/1000", false}} {
		if x.Has(frac(t, c.y)) != c.has {
			t.Errorf("Has of %s", c.y)
		}
	}
	for _, c := range []struct {
		lo, hi           string
		in, before, back bool
	}{
		{"1", "3", true, false, false}, {"1", "4", true, false, false}, {"0", "3", true, false, false}, {"3/2", "4", false, false, false}, {"0", "2", false, false, false},
		{"3", "4", false, false, false}, {"31/10", "4", false, true, false}, {"-1", "9/10", false, false, true}, {"0", "1", false, false, false},
	} {
		y := band(t, c.lo, c.hi)
		if x.In(y) != c.in || x.Before(y) != c.before || y.Before(x) != c.back {
			t.Errorf("In or Before of %s", y.Text())
		}
		meet, e := x.Meet(y)
		if c.before || c.back {
			noBand(t, "Meet of "+y.Text(), meet, e, api.ErrNone)
		} else if e != api.OK || !meet.In(x) || !meet.In(y) {
			t.Errorf("Meet of %s: %s %d", y.Text(), meet.Text(), e)
		}
	}
	m, e := band(t, "1", "3").Meet(band(t, "3", "5"))
	isBand(t, "Meet", m, e, "[3,3]")
	m, e = band(t, "2", "5").Meet(band(t, "1", "3"))
	isBand(t, "Meet", m, e, "[2,3]")
	m, e = band(t, "1", "5").Meet(band(t, "2", "3"))
	isBand(t, "Meet", m, e, "[2,3]")
}

// P1.5

func TestInclusionOfNumbers(t *testing.T) {
	r := seeded()
	has := func(what string, x Band, y Frac) {
		t.Helper()
		if !x.Has(y) {
			t.Fatalf("%s: %s is not in %s", what, y.Text(), x.Text())
		}
	}
	for range 1500 {
		x, y := randomBand(r), randomBand(r)
		a, b := inside(r, x), inside(r, y)
		has("Add", x.Add(y), a.Add(b))
		has("Sub", x.Sub(y), a.Sub(b))
		has("Mul", x.Mul(y), a.Mul(b))
		has("Neg", x.Neg(), a.Neg())
		has("Square", x.Square(), a.Mul(a))
		has("Round", x.Round(r.Intn(9)), a)
		if q, e := x.Div(y); e == api.OK {
			has("Div", q, a.over(b))
		} else if !y.Has(Frac{}) {
			t.Fatalf("Div by %s: error %d", y.Text(), e)
		}
	}
}

// isIn tests that a band lies in another one, if both were returned without an error.
func isIn(t *testing.T, what string, x Band, e api.Errno, y Band, e2 api.Errno) {
	t.Helper()
	if e == api.OK && e2 == api.OK && !x.In(y) {
		t.Fatalf("%s: %s is not in %s", what, x.Text(), y.Text())
	}
}

func TestInclusionOfBands(t *testing.T) {
	r := seeded()
	for range 1500 {
		x, y := randomBand(r), randomBand(r)
		a, b := within(r, x), within(r, y)
		isIn(t, "Add", a.Add(b), 0, x.Add(y), 0)
		isIn(t, "Sub", a.Sub(b), 0, x.Sub(y), 0)
		isIn(t, "Mul", a.Mul(b), 0, x.Mul(y), 0)
		isIn(t, "Neg", a.Neg(), 0, x.Neg(), 0)
		isIn(t, "Square", a.Square(), 0, x.Square(), 0)
		isIn(t, "Square in Mul", x.Square(), 0, x.Mul(x), 0)
		isIn(t, "Hull", a.Hull(b), 0, x.Hull(y), 0)
		q, e := a.Div(b)
		q2, e2 := x.Div(y)
		isIn(t, "Div", q, e, q2, e2)
		k := r.Intn(40)
		isIn(t, "Round", a.Round(k), 0, x.Round(k), 0)
		isIn(t, "Round with more bits", a.Round(k+r.Intn(40)), 0, a.Round(k), 0)
	}
}

func TestInclusionOfFunctions(t *testing.T) {
	r := seeded()
	for range 500 {
		x := randomBand(r)
		a := within(r, x)
		k := r.Intn(100)
		more := k + r.Intn(100)
		for _, f := range []struct {
			what string
			of   func(Band, int) (Band, api.Errno)
		}{{"Root", Band.Root}, {"Exp", Band.Exp}, {"Log", Band.Log}} {
			y, e := f.of(a, k)
			z, e2 := f.of(x, k)
			isIn(t, f.what, y, e, z, e2)
			if e2 == api.OK && e != api.OK {
				t.Fatalf("%s of %s is an error, but that of %s is none", f.what, a.Text(), x.Text())
			}
			z, e2 = f.of(a, more)
			isIn(t, f.what+" with more bits", z, e2, y, e)
		}
	}
}
