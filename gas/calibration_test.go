package gas

import (
	"math"
	"math/big"
	"math/rand"
	"testing"

	"fluxmast/api"
	"fluxmast/num"
)

// P4.1 and P4.5: calibrations.

func check(time int, low, high string) Check {
	return Check{Time: time, Low: frac(low), High: frac(high)}
}

func sameCheck(a, b Check) bool {
	return a.Time == b.Time && a.Low.Same(b.Low) && a.High.Same(b.High)
}

func isCheck(t testing.TB, what string, got, want Check) {
	t.Helper()
	if !sameCheck(got, want) {
		t.Errorf("%s: %d %s %s, want %d %s %s", what, got.Time, got.Low.Text(), got.High.Text(), want.Time, want.Low.Text(), want.High.Text())
	}
}

func TestCalibrate(t *testing.T) {
	for _, c := range []struct {
		low, high, readLow, readHigh, slope, offset string
		code                                        api.Errno
	}{
		{"380", "420", "39", "43", "10", "-10", api.OK},
		{"380", "420", "43", "39", "-10", "810", api.OK},
		{"-1/2", "1/3", "0", "5", "1/6", "-1/2", api.OK},
		{"-1/2", "1/3", "-1", "0", "5/6", "1/3", api.OK},
		{"420", "380", "39", "43", "0", "0", api.ErrOrder},
		{"420", "420", "39", "43", "0", "0", api.ErrOrder},
		{"420", "420", "39", "39", "0", "0", api.ErrOrder},
		{"421", "420", "39", "39", "0", "0", api.ErrOrder},
		{"380", "420", "39", "39", "0", "0", api.ErrZero},
		{"0", "1/1000000", "0", "0", "0", "0", api.ErrZero},
	} {
		what := "Calibrate of " + c.low + " " + c.high + " " + c.readLow + " " + c.readHigh
		got, e := Calibrate(frac(c.low), frac(c.high), frac(c.readLow), frac(c.readHigh))
		isCode(t, what, e, c.code)
		isText(t, what, got.Slope.Text()+" "+got.Offset.Text(), c.slope+" "+c.offset)
	}
}

func TestApply(t *testing.T) {
	for _, c := range []struct{ slope, offset, reading, want string }{
		{"10", "-10", "81/2", "395"},
		{"0", "-10", "81/2", "-10"},
		{"-1/3", "1/7", "3/7", "0"},
		{"5", "2", "0", "2"},
		{"0", "0", "9", "0"},
	} {
		isText(t, "Apply to "+c.reading, Apply(Line{Slope: frac(c.slope), Offset: frac(c.offset)}, frac(c.reading)).Text(), c.want)
	}
}

func TestLines(t *testing.T) {
	r := seeded()
	for range 300 {
		low, readLow, readHigh := randomFrac(r), randomFrac(r), randomFrac(r)
		high := low.Add(randomAbove(r))
		line, e := Calibrate(low, high, readLow, readHigh)
		if readLow.Same(readHigh) {
			isCode(t, "Calibrate", e, api.ErrZero)
			continue
		}
		isCode(t, "Calibrate", e, api.OK)
		isText(t, "the value of the low cylinder", Apply(line, readLow).Text(), low.Text())
		isText(t, "the value of the high cylinder", Apply(line, readHigh).Text(), high.Text())

		// The line by the low cylinder and a third point is the same one.
		reading := randomFrac(r)
		value := Apply(line, reading)
		var again Line
		switch value.Cmp(low) {
		case 0:
			isTrue(t, "a value that has one reading", reading.Same(readLow))
			continue
		case 1:
			again, e = Calibrate(low, value, readLow, reading)
		case -1:
			again, e = Calibrate(value, low, reading, readLow)
		}
		isCode(t, "Calibrate by a third point", e, api.OK)
		isText(t, "the Slope by a third point", again.Slope.Text(), line.Slope.Text())
		isText(t, "the Offset by a third point", again.Offset.Text(), line.Offset.Text())
	}
}

func TestInterpolated(t *testing.T) {
	l := []Check{check(-100, "1/2", "5"), check(0, "39", "43"), check(100, "40", "44"), check(101, "20", "2"), check(1<<40, "0", "1")}
	for _, c := range []struct {
		l    []Check
		time int
		want Check
	}{
		{l, 50, check(50, "79/2", "87/2")},
		{l, 0, check(0, "39", "43")},
		{l, 100, check(100, "40", "44")},
		{l, 101, check(101, "20", "2")},
		{l, 1, check(1, "3901/100", "4301/100")},
		{l, 99, check(99, "3999/100", "4399/100")},
		{l, -100, check(-100, "1/2", "5")},
		{l, -1, check(-1, "7723/200", "2131/50")},
		{l, 1 << 40, check(1<<40, "0", "1")},
		{l[:3], 101, check(101, "40", "44")},
		{l[:3], 1 << 40, check(1<<40, "40", "44")},
		{l[1:2], 0, check(0, "39", "43")},
		{l[1:2], 7, check(7, "39", "43")},
		{[]Check{check(-1<<40, "0", "7"), check(1<<40, "1", "3")}, 0, check(0, "1/2", "5")},
		{[]Check{check(-1<<40, "0", "7"), check(1<<40, "1", "3")}, -1 << 40, check(-1<<40, "0", "7")},
	} {
		got, e := Interpolated(c.l, c.time)
		isCode(t, "Interpolated", e, api.OK)
		isCheck(t, "Interpolated", got, c.want)
	}
}

// minutes is as many checks, one a minute.
func minutes(count int) []Check {
	l := make([]Check, count)
	for i := range l {
		l[i] = check(60*i, "39", "43")
	}
	return l
}

type checksCase struct {
	what string
	l    []Check
	time int
	want api.Errno
}

func checksCases() []checksCase {
	return []checksCase{
		{"32 checks", minutes(32), 9999, api.OK},
		{"one check", minutes(1), 0, api.OK},
		{"no list", nil, 0, api.ErrSize},
		{"no check", []Check{}, 0, api.ErrSize},
		{"33 checks", minutes(33), 0, api.ErrSize},
		{"33 times the same check, and a great time", make([]Check, 33), 1<<40 + 1, api.ErrSize},
		{"checks at the limits", []Check{check(-1<<40, "0", "1"), check(1<<40, "0", "1")}, 0, api.OK},
		{"a check above 2^40", []Check{check(0, "0", "1"), check(1<<40+1, "0", "1")}, 0, api.ErrArg},
		{"a check below -2^40", []Check{check(-1<<40-1, "0", "1")}, 0, api.ErrArg},
		{"the greatest time of a check", []Check{check(math.MaxInt, "0", "1")}, 0, api.ErrArg},
		{"the least time of a check", []Check{check(math.MinInt, "0", "1")}, 0, api.ErrArg},
		{"a check below -2^40 and out of order", []Check{check(0, "0", "1"), check(math.MinInt, "0", "1")}, 0, api.ErrArg},
		{"two checks at a time", []Check{check(0, "0", "1"), check(0, "0", "1")}, 0, api.ErrOrder},
		{"an earlier check", []Check{check(0, "0", "1"), check(7, "0", "1"), check(6, "0", "1")}, 0, api.ErrOrder},
		{"an order ahead of a great check", []Check{check(0, "0", "1"), check(0, "0", "1"), check(1<<41, "0", "1")}, 0, api.ErrOrder},
		{"a great check ahead of an order", []Check{check(1<<41, "0", "1"), check(0, "0", "1")}, 0, api.ErrArg},
		{"an order and a great time", []Check{check(0, "0", "1"), check(0, "0", "1")}, 1 << 41, api.ErrOrder},
		{"a great time", minutes(3), 1<<40 + 1, api.ErrArg},
		{"a great time below 0", minutes(3), -1<<40 - 1, api.ErrArg},
		{"the greatest time", minutes(3), math.MaxInt, api.ErrArg},
		{"the least time", minutes(3), math.MinInt, api.ErrArg},
		{"a time ahead of the first check", minutes(3), -1, api.ErrNone},
		{"the least time that is one", minutes(3), -1 << 40, api.ErrNone},
	}
}

func TestCheckErrors(t *testing.T) {
	for _, c := range checksCases() {
		got, e := Interpolated(c.l, c.time)
		isCode(t, "Interpolated with "+c.what, e, c.want)
		if e != api.OK {
			isCheck(t, "Interpolated with "+c.what, got, Check{})
			// All other errors of Corrected come behind these.
			value, e := Corrected(c.l, whole(1), whole(1), c.time, -1, whole(1))
			isCode(t, "Corrected with "+c.what, e, c.want)
			isText(t, "Corrected with "+c.what, value.Text(), "0")
		}
	}
}

func TestCorrected(t *testing.T) {
	l := []Check{check(0, "39", "43"), check(100, "40", "44"), check(200, "41", "41"), check(300, "44", "40")}
	for _, c := range []struct {
		what       string
		low, high  string
		time, most int
		reading    string
		want       string
		code       api.Errno
	}{
		{"between two checks", "380", "420", 50, 60, "42", "405", api.OK},
		{"just not too old", "380", "420", 50, 50, "42", "405", api.OK},
		{"too old", "380", "420", 50, 49, "42", "0", api.ErrStale},
		{"too old with the next check near", "380", "420", 99, 98, "42", "0", api.ErrStale},
		{"at a check", "380", "420", 100, 0, "40", "380", api.OK},
		{"at the last check", "380", "420", 300, 0, "40", "420", api.OK},
		{"behind the last check", "380", "420", 400, 100, "40", "420", api.OK},
		{"long behind the last check", "380", "420", 400, 99, "40", "0", api.ErrStale},
		{"at the greatest time", "380", "420", 1 << 40, math.MaxInt, "40", "420", api.OK},
		{"most below 0", "380", "420", 0, -1, "39", "0", api.ErrArg},
		{"most below 0, long behind", "420", "380", 400, -1, "40", "0", api.ErrArg},
		{"the least most", "380", "420", 0, math.MinInt, "39", "0", api.ErrArg},
		{"values out of order", "420", "380", 50, 50, "42", "0", api.ErrOrder},
		{"equal values", "420", "420", 200, 50, "42", "0", api.ErrOrder},
		{"values out of order, and too old", "420", "380", 50, 49, "42", "0", api.ErrStale},
		{"equal readings", "380", "420", 200, 50, "42", "0", api.ErrZero},
		{"equal readings, and too old", "380", "420", 200, 0, "42", "0", api.ErrZero},
		{"time ahead of the first check", "380", "420", -1, 50, "42", "0", api.ErrNone},
	} {
		got, e := Corrected(l, frac(c.low), frac(c.high), c.time, c.most, frac(c.reading))
		isCode(t, "Corrected "+c.what, e, c.code)
		isText(t, "Corrected "+c.what, got.Text(), c.want)
	}
	wide := []Check{check(-1<<40, "0", "1")}
	_, e := Corrected(wide, whole(1), whole(2), 1<<40, 1<<41, whole(1))
	isCode(t, "Corrected after the longest time", e, api.OK)
	_, e = Corrected(wide, whole(1), whole(2), 1<<40, 1<<41-1, whole(1))
	isCode(t, "Corrected after more than the longest time", e, api.ErrStale)
}

// randomChecks is checks with Low less than High.
func randomChecks(r *rand.Rand) []Check {
	l := make([]Check, 1+r.Intn(32))
	time := r.Intn(2000) - 1000
	for i := range l {
		low := randomFrac(r)
		l[i] = Check{Time: time, Low: low, High: low.Add(randomAbove(r))}
		time += 1 + r.Intn(50)
	}
	return l
}

// slowChecks is what Interpolated returns, from the first check to the last one, at each second.
func slowChecks(l []Check) map[int][2]*big.Rat {
	all := map[int][2]*big.Rat{}
	for i, c := range l[:len(l)-1] {
		next := l[i+1]
		for time := c.Time; time < next.Time; time++ {
			near := big.NewRat(int64(next.Time-time), int64(next.Time-c.Time))
			far := big.NewRat(int64(time-c.Time), int64(next.Time-c.Time))
			all[time] = [2]*big.Rat{add(mul(rat(c.Low), near), mul(rat(next.Low), far)), add(mul(rat(c.High), near), mul(rat(next.High), far))}
		}
	}
	return all
}

func TestInterpolatedModel(t *testing.T) {
	r := seeded()
	for range 20 {
		l := randomChecks(r)
		for time, want := range slowChecks(l) {
			got, e := Interpolated(l, time)
			isCode(t, "Interpolated", e, api.OK)
			isTrue(t, "it is at the time", got.Time == time)
			isRat(t, "Low of Interpolated", got.Low, want[0])
			isRat(t, "High of Interpolated", got.High, want[1])
		}
	}
}

func TestCorrectedAtChecks(t *testing.T) {
	r := seeded()
	for range 50 {
		l := randomChecks(r)
		low := randomFrac(r)
		high := low.Add(randomAbove(r))
		for _, c := range l {
			got, e := Corrected(l, low, high, c.Time, r.Intn(2), c.Low)
			isCode(t, "Corrected", e, api.OK)
			isText(t, "the value of the low cylinder", got.Text(), low.Text())
			got, e = Corrected(l, low, high, c.Time, r.Intn(2), c.High)
			isCode(t, "Corrected", e, api.OK)
			isText(t, "the value of the high cylinder", got.Text(), high.Text())
		}
	}
}

func TestCorrectedBetweenChecks(t *testing.T) {
	r := seeded()
	for range 500 {
		l := randomChecks(r)
		if len(l) < 2 {
			continue
		}
		low := randomFrac(r)
		high := low.Add(randomAbove(r))
		i, reading := r.Intn(len(l)-1), randomFrac(r)
		time := l[i].Time + r.Intn(l[i+1].Time-l[i].Time)
		got, e := Corrected(l, low, high, time, 50, reading)
		isCode(t, "Corrected", e, api.OK)
		a, _ := Calibrate(low, high, l[i].Low, l[i].High)
		b, _ := Calibrate(low, high, l[i+1].Low, l[i+1].High)
		told := num.Only(Apply(a, reading)).Hull(num.Only(Apply(b, reading)))
		if !told.Has(got) {
			t.Errorf("Corrected: %s is not in %s", got.Text(), told.Text())
		}
	}
}

func TestSpread(t *testing.T) {
	for _, c := range []struct {
		low, high, readLow, readHigh, reading, want string
		code                                        api.Errno
	}{
		{"379 381", "419 421", "0", "4", "1", "[389,391]", api.OK},
		{"379 381", "419 421", "0", "4", "8", "[457,463]", api.OK},
		{"379 381", "419 421", "0", "4", "-4", "[337,343]", api.OK},
		{"379 381", "419 421", "0", "4", "0", "[379,381]", api.OK},
		{"379 381", "419 421", "0", "4", "4", "[419,421]", api.OK},
		{"379 381", "419 421", "4", "0", "1", "[409,411]", api.OK},
		{"419 421", "379 381", "0", "4", "1", "[409,411]", api.OK}, // they may be any bands
		{"-2 3", "-5 -1", "1/2", "1/3", "5/12", "[-7/2,1]", api.OK},
		{"379 381", "419 421", "4", "4", "4", "[0,0]", api.ErrZero},
		{"379 381", "419 421", "0", "0", "1", "[0,0]", api.ErrZero},
	} {
		what := "Spread of " + c.low + ", " + c.high + " at " + c.reading
		got, e := Spread(band(c.low), band(c.high), frac(c.readLow), frac(c.readHigh), frac(c.reading))
		isCode(t, what, e, c.code)
		isText(t, what, got.Text(), c.want)
	}
}

func TestTrueValuesLieInSpread(t *testing.T) {
	r := seeded()
	known := 0
	for range 500 {
		low, high := randomBand(r), randomBand(r)
		readLow, readHigh, reading := randomFrac(r), randomFrac(r), randomFrac(r)
		spread, e := Spread(low, high, readLow, readHigh, reading)
		if readLow.Same(readHigh) {
			isCode(t, "Spread", e, api.ErrZero)
			continue
		}
		isCode(t, "Spread", e, api.OK)
		for _, ends := range [][2]num.Frac{{low.Lo(), high.Hi()}, {low.Hi(), high.Lo()}, {low.Lo(), high.Lo()}, {low.Hi(), high.Hi()}, {randomIn(r, low), randomIn(r, high)}} {
			line, e := Calibrate(ends[0], ends[1], readLow, readHigh)
			if e != api.OK {
				isCode(t, "Calibrate", e, api.ErrOrder)
				continue
			}
			known++
			if value := Apply(line, reading); !spread.Has(value) {
				t.Errorf("the value %s is not in %s", value.Text(), spread.Text())
			}
		}
	}
	isTrue(t, "many values lie in Spread", known > 500)
}

// P1 and R4.
func TestAnyChecks(t *testing.T) {
	r := seeded()
	for range 2000 {
		l := randomChecks(r)[:r.Intn(2)]
		for range r.Intn(4) {
			l = append(l, Check{extreme(r), randomFrac(r), randomFrac(r)})
		}
		l, unchanged := behind(t, l, check(7, "1", "2"), sameCheck)
		if got, e := Interpolated(l, extreme(r)); e != api.OK && !sameCheck(got, Check{}) {
			t.Fatal("a check with an error")
		}
		if got, e := Corrected(l, randomFrac(r), randomFrac(r), extreme(r), extreme(r), randomFrac(r)); e != api.OK && !got.Zero() {
			t.Fatal("a value with an error")
		}
		unchanged()
	}
}
