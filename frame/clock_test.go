package frame

import (
	"math"
	"math/big"
	"math/rand"
	"testing"

	"fluxmast/api"
)

// P2.1 and P2.5: times.

func TestTime(t *testing.T) {
	one := []Check{{Clock: 1000, True: api.Range{Lo: 5000, Hi: 5010}}}
	two := append(one, Check{Clock: 3000, True: api.Range{Lo: 7008, Hi: 7020}}, Check{Life: 1, Clock: 0, True: api.Range{}})
	late := []Check{{Life: 255, Clock: 0, True: api.Range{Lo: 1 << 40, Hi: 1 << 40}}}
	early := []Check{{Clock: 1 << 40, True: api.Range{}}}
	for _, c := range []struct {
		l                  []Check
		drift, life, clock int
		want               api.Range
	}{
		{one, 1000, 0, 3500, api.Range{Lo: 7497, Hi: 7513}},
		{one, 1000, 0, 1000, api.Range{Lo: 5000, Hi: 5010}},
		{one, 0, 0, 3500, api.Range{Lo: 7500, Hi: 7510}},
		{one, 0, 0, 0, api.Range{Lo: 4000, Hi: 4010}},
		{one, 1000, 0, 0, api.Range{Lo: 3999, Hi: 4011}},
		{one, 1, 0, 1001, api.Range{Lo: 5000, Hi: 5012}}, // a millionth of 1 counts as 1
		{one, 1, 0, 999, api.Range{Lo: 4998, Hi: 5010}},
		{one, 1000, 0, 3001, api.Range{Lo: 6998, Hi: 7014}},
		{one, 1000, 0, 3000, api.Range{Lo: 6998, Hi: 7012}},
		{two, 1000, 0, 3500, api.Range{Lo: 7507, Hi: 7513}},
		{two, 1000, 1, 3500, api.Range{Lo: 3496, Hi: 3504}},
		{late, 100000, 255, 1 << 40, api.Range{Lo: 1<<41 - 109951162778, Hi: 1<<41 + 109951162778}},
		{early, 100000, 0, 0, api.Range{Lo: -1<<40 - 109951162778, Hi: -1<<40 + 109951162778}},
	} {
		got, e := Time(c.l, c.drift, c.life, c.clock)
		isCode(t, "Time", e, api.OK)
		if got != c.want {
			t.Errorf("Time of the clock %d with the drift %d: %v, want %v", c.clock, c.drift, got, c.want)
		}
	}
}

// badChecks is lists with a drift, and their error.
func badChecks() []struct {
	what  string
	l     []Check
	drift int
	want  api.Errno
} {
	full := api.Range{Lo: 0, Hi: 1 << 40}
	turned := api.Range{Lo: 2, Hi: 1}
	return []struct {
		what  string
		l     []Check
		drift int
		want  api.Errno
	}{
		{"17 checks", make([]Check, 17), -1, api.ErrSize},
		{"17 invalid checks", append(make([]Check, 16), Check{Life: -1}), 0, api.ErrSize},
		{"a drift below 0", []Check{{True: turned}}, -1, api.ErrArg},
		{"a drift above 100000", []Check{{True: turned}}, 100001, api.ErrArg},
		{"a drift far above", nil, math.MaxInt, api.ErrArg},
		{"a life below 0", []Check{{Life: -1, True: turned}}, 0, api.ErrArg},
		{"a life above 255", []Check{{Life: 256, True: full}}, 0, api.ErrArg},
		{"a clock below 0", []Check{{Clock: -1, True: full}}, 0, api.ErrArg},
		{"a clock above 2^40", []Check{{Clock: 1<<40 + 1, True: full}}, 0, api.ErrArg},
		{"a time below 0", []Check{{True: api.Range{Lo: -1, Hi: 1}}}, 0, api.ErrArg},
		{"a time above 2^40", []Check{{True: api.Range{Lo: 1, Hi: 1<<40 + 1}}}, 0, api.ErrArg},
		{"a least time above 2^40", []Check{{True: api.Range{Lo: 1<<40 + 1, Hi: 1}}}, 0, api.ErrArg},
		{"a greatest time below 0", []Check{{True: api.Range{Lo: 1, Hi: -1}}}, 0, api.ErrArg},
		{"a turned range", []Check{{True: full}, {True: turned}}, 0, api.ErrOrder},
		{"a turned range ahead of an invalid check", []Check{{True: turned}, {Life: -1}}, 0, api.ErrOrder},
		{"an invalid check ahead of a turned range", []Check{{Life: -1}, {True: turned}}, 0, api.ErrArg},
	}
}

func TestCheckErrors(t *testing.T) {
	for _, c := range badChecks() {
		got, e := Time(c.l, c.drift, -1, -1)
		isCode(t, "Time with "+c.what, e, c.want)
		if got != (api.Range{}) {
			t.Errorf("Time with %s: %v with an error", c.what, got)
		}
		i, k, e := Agree(c.l, c.drift)
		isCode(t, "Agree with "+c.what, e, c.want)
		if i != 0 || k != 0 {
			t.Errorf("Agree with %s: %d and %d with an error", c.what, i, k)
		}
	}
}

func TestTimeErrors(t *testing.T) {
	l := []Check{{Clock: 1000, True: api.Range{Lo: 5000, Hi: 5010}}, {Clock: 3000, True: api.Range{Lo: 7013, Hi: 7020}}}
	for _, c := range []struct {
		what               string
		l                  []Check
		drift, life, clock int
		want               api.Errno
	}{
		{"16 checks", make([]Check, 16), 100000, 0, 1 << 40, api.OK},
		{"a life below 0", l, 0, -1, 0, api.ErrArg},
		{"a life above 255", l, 0, 256, 0, api.ErrArg},
		{"a clock below 0", l, 0, 7, -1, api.ErrArg},
		{"a clock above 2^40", l, 0, 7, 1<<40 + 1, api.ErrArg},
		{"a clock far below 0", l, 0, 7, math.MinInt, api.ErrArg},
		{"no check of the life", l, 0, 7, 0, api.ErrNone},
		{"no check", nil, 0, 0, 0, api.ErrNone},
		{"checks that clash", l, 1000, 0, 3000, api.ErrClash},
		{"checks that meet far away", l, 1000, 0, 4000, api.OK},
		{"a greater drift", l, 1500, 0, 3000, api.OK},
	} {
		got, e := Time(c.l, c.drift, c.life, c.clock)
		isCode(t, "Time with "+c.what, e, c.want)
		if c.want != api.OK && got != (api.Range{}) {
			t.Errorf("Time with %s: %v with an error", c.what, got)
		}
	}
}

func TestAgree(t *testing.T) {
	at := func(life, clock, lo, hi int) Check {
		return Check{life, clock, api.Range{Lo: lo, Hi: hi}}
	}
	for _, c := range []struct {
		what  string
		l     []Check
		drift int
		i, k  int
	}{
		{"none", nil, 0, -1, -1},
		{"one", []Check{at(0, 0, 5, 5)}, 0, -1, -1},
		{"two that touch above", []Check{at(0, 1000, 5000, 5010), at(0, 3000, 7012, 7020)}, 1000, -1, -1},
		{"two that are apart above", []Check{at(0, 1000, 5000, 5010), at(0, 3000, 7013, 7020)}, 1000, 0, 1},
		{"two that touch below", []Check{at(0, 1000, 5000, 5010), at(0, 3000, 6900, 6998)}, 1000, -1, -1},
		{"two that are apart below", []Check{at(0, 1000, 5000, 5010), at(0, 3000, 6900, 6997)}, 1000, 0, 1},
		{"two with the later one ahead", []Check{at(0, 3000, 7013, 7020), at(0, 1000, 5000, 5010)}, 1000, 0, 1},
		{"other lives", []Check{at(0, 1000, 5000, 5010), at(1, 1000, 6000, 6010)}, 1000, -1, -1},
		{"the same clock", []Check{at(3, 1000, 5000, 5010), at(3, 1000, 5011, 5020)}, 100000, 0, 1},
		{"several, by the second index first", []Check{at(0, 0, 0, 0), at(1, 0, 0, 0), at(1, 0, 9, 9), at(0, 0, 9, 9)}, 0, 1, 2},
		{"several, then by the first index", []Check{at(0, 0, 0, 9), at(0, 0, 5, 14), at(0, 0, 20, 20)}, 0, 0, 2},
		{"one that agrees with the first alone", []Check{at(0, 0, 0, 9), at(0, 0, 5, 14), at(0, 0, 3, 4)}, 0, 1, 2},
	} {
		i, k, e := Agree(c.l, c.drift)
		isCode(t, "Agree of "+c.what, e, api.OK)
		if i != c.i || k != c.k {
			t.Errorf("Agree of %s: %d and %d, want %d and %d", c.what, i, k, c.i, c.k)
		}
	}
}

// slowTime is the range by a check, by fractions of any size.
func slowTime(c Check, drift, clock int) api.Range {
	passed := clock - c.Clock
	wrong := new(big.Rat).Mul(big.NewRat(int64(passed), 1), big.NewRat(int64(drift), 1000000))
	wrong.Abs(wrong)
	w := new(big.Int).Div(wrong.Num(), wrong.Denom())
	if !wrong.IsInt() {
		w.Add(w, big.NewInt(1))
	}
	return api.Range{Lo: c.True.Lo + passed - int(w.Int64()), Hi: c.True.Hi + passed + int(w.Int64())}
}

func TestTimeByOneCheck(t *testing.T) {
	r := seeded()
	for range 3000 {
		lo := r.Intn(1 << 40)
		c := Check{r.Intn(3), r.Intn(1<<40 + 1), api.Range{Lo: lo, Hi: lo + r.Intn(1<<40-lo+1)}}
		drift, clock := r.Intn(100001), r.Intn(1<<40+1)
		if r.Intn(2) == 0 {
			clock = min(c.Clock+r.Intn(3000000), 1<<40)
		}
		got, e := Time([]Check{c}, drift, c.Life, clock)
		isCode(t, "Time", e, api.OK)
		if want := slowTime(c, drift, clock); got != want {
			t.Fatalf("Time at %d by %v with the drift %d: %v, want %v", clock, c, drift, got, want)
		}
	}
}

// trueClock is moments of a clock that is nowhere more wrong than by drift, with the times that it truly was.
func trueClock(r *rand.Rand, drift int) (clocks, times []int) {
	clock, time := r.Intn(1000), 1000000000+r.Intn(1000)
	for range 30 {
		// A step of whole thousands of a second makes the error of a rate in millionths whole.
		steps := r.Intn(50)
		clock += steps * 1000000
		time += steps * (1000000 + r.Intn(2*drift+1) - drift)
		clocks, times = append(clocks, clock), append(times, time)
	}
	return clocks, times
}

func TestTrueTimeLiesInTime(t *testing.T) {
	r := seeded()
	for range 300 {
		drift := r.Intn(3000)
		clocks, times := trueClock(r, drift)
		var l []Check
		for range 1 + r.Intn(8) {
			i := r.Intn(len(clocks))
			l = append(l, Check{9, clocks[i], api.Range{Lo: times[i] - r.Intn(500), Hi: times[i] + r.Intn(500)}})
		}
		if i, k, e := Agree(l, drift); i != -1 || k != -1 || e != api.OK {
			t.Fatalf("checks that are true do not agree: %d and %d, error %d", i, k, e)
		}
		for i, clock := range clocks {
			got, e := Time(l, drift, 9, clock)
			if e != api.OK || times[i] < got.Lo || times[i] > got.Hi {
				t.Fatalf("the true time %d does not lie in %v, error %d", times[i], got, e)
			}
		}
	}
}

// Fewer checks, and a greater drift, have a range in which the other one lies.
func TestTimeNarrows(t *testing.T) {
	r := seeded()
	for range 2000 {
		var l []Check
		for range 2 + r.Intn(3) {
			lo := r.Intn(300)
			l = append(l, Check{0, 5000 + r.Intn(300), api.Range{Lo: lo, Hi: lo + r.Intn(300)}})
		}
		drift, clock := r.Intn(100000), r.Intn(10000)
		got, e := Time(l, drift, 0, clock)
		if e != api.OK {
			isCode(t, "Time", e, api.ErrClash)
			continue
		}
		for _, wider := range []struct {
			l     []Check
			drift int
		}{{l[1:], drift}, {l[:len(l)-1], drift}, {l, drift + 1 + r.Intn(100000-drift)}} {
			all, e := Time(wider.l, wider.drift, 0, clock)
			if e != api.OK || got.Lo < all.Lo || got.Hi > all.Hi {
				t.Fatalf("%v does not lie in %v, error %d", got, all, e)
			}
		}
	}
}

// P1: no call panics, and an error comes alone.
func TestAnyChecks(t *testing.T) {
	r := seeded()
	for range 5000 {
		var l []Check
		for range r.Intn(4) {
			l = append(l, Check{extreme(r), extreme(r), api.Range{Lo: extreme(r), Hi: extreme(r)}})
		}
		drift := extreme(r)
		if got, e := Time(l, drift, extreme(r), extreme(r)); e != api.OK && got != (api.Range{}) {
			t.Fatal("a range with an error")
		}
		if i, k, e := Agree(l, drift); e != api.OK && (i != 0 || k != 0) {
			t.Fatal("indices with an error")
		}
	}
}
