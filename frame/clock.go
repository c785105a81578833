package frame

import (
	"math"

	"fluxmast/api"
)

// Check says which time it truly was when a logger's clock showed a time.
type Check struct {
	Life, Clock int
	True        api.Range
}

const (
	maxDrift  = 100000
	driftUnit = 1000000
)

// Time returns when a frame was taken.
func Time(l []Check, drift, life, clock int) (api.Range, api.Errno) {
	if e := checkChecks(l, drift); e != api.OK {
		return api.Range{}, e
	}
	if !upTo(life, maxLife) || !upTo(clock, api.MaxClock) {
		return api.Range{}, api.ErrArg
	}
	found := false
	times := api.Range{Lo: math.MinInt, Hi: math.MaxInt}
	for _, c := range l {
		if c.Life == life {
			found = true
			times = meet(times, c.at(clock, drift))
		}
	}
	switch {
	case !found:
		return api.Range{}, api.ErrNone
	case times.Lo > times.Hi:
		return api.Range{}, api.ErrClash
	}
	return times, api.OK
}

// Agree returns the first two checks that contradict each other, or -1 and -1.
func Agree(l []Check, drift int) (int, int, api.Errno) {
	if e := checkChecks(l, drift); e != api.OK {
		return 0, 0, e
	}
	for k, later := range l {
		for i, c := range l[:k] {
			if c.Life != later.Life {
				continue
			}
			if both := meet(c.at(later.Clock, drift), later.True); both.Lo > both.Hi {
				return i, k, api.OK
			}
		}
	}
	return -1, -1, api.OK
}

func checkChecks(l []Check, drift int) api.Errno {
	if len(l) > api.MaxClockTests {
		return api.ErrSize
	}
	if !upTo(drift, maxDrift) {
		return api.ErrArg
	}
	for _, c := range l {
		switch {
		case !upTo(c.Life, maxLife) || !upTo(c.Clock, api.MaxClock):
			return api.ErrArg
		case !upTo(c.True.Lo, api.MaxClock) || !upTo(c.True.Hi, api.MaxClock):
			return api.ErrArg
		case c.True.Lo > c.True.Hi:
			return api.ErrOrder
		}
	}
	return api.OK
}

// at returns when it can have been, by the check, when the clock showed a time.
func (c Check) at(clock, drift int) api.Range {
	passed := clock - c.Clock
	wrong := (max(passed, -passed)*drift + driftUnit - 1) / driftUnit
	return api.Range{Lo: c.True.Lo + passed - wrong, Hi: c.True.Hi + passed + wrong}
}

// meet returns what two ranges have in common; Lo is above Hi, if there is nothing.
func meet(a, b api.Range) api.Range {
	return api.Range{Lo: max(a.Lo, b.Lo), Hi: min(a.Hi, b.Hi)}
}
