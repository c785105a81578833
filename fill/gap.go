package fill

import (
	"slices"

	"fluxmast/api"
	"fluxmast/num"
)

const (
	maxDay   = 366
	maxLight = 4000
	maxTemp  = 1000
	// slots is the number of half hours of a day.
	slots = 48
)

// Near returns the neighbours of a half hour.
func Near(l []Hour, at int, r Rule) ([]int, api.Errno) {
	if e := nearError(l, at, r); e != api.OK {
		return nil, e
	}
	return near(l, at, r), api.OK
}

// Guess returns the flux of a half hour by its neighbours.
func Guess(l []Hour, at int, r Rule, least int) (num.Frac, num.Band, api.Errno) {
	if e := nearError(l, at, r); e != api.OK {
		return num.Frac{}, num.Band{}, e
	}
	if !isLeast(least) {
		return num.Frac{}, num.Band{}, api.ErrArg
	}
	fluxes := nearFluxes(l, at, r)
	if len(fluxes) < least {
		return num.Frac{}, num.Band{}, api.ErrNone
	}
	return mean(fluxes), span(fluxes), api.OK
}

// Fill returns the flux of all half hours within bands.
func Fill(l []Hour, rules []Rule, least int) ([]num.Band, []int, api.Errno) {
	if e := fillError(l, rules, least); e != api.OK {
		return nil, nil, e
	}
	bands, by := make([]num.Band, len(l)), make([]int, len(l))
	for at := range l {
		var found bool
		if bands[at], by[at], found = filled(l, at, rules, least); !found {
			return nil, nil, api.ErrNone
		}
	}
	return bands, by, api.OK
}

// nearError returns the first error of Near.
func nearError(l []Hour, at int, r Rule) api.Errno {
	if e := hoursError(l); e != api.OK {
		return e
	}
	if !r.isValid() || !between(at, 0, len(l)-1) {
		return api.ErrArg
	}
	return api.OK
}

// fillError returns the first error of Fill, but for ErrNone.
func fillError(l []Hour, rules []Rule, least int) api.Errno {
	if e := hoursError(l); e != api.OK {
		return e
	}
	if !between(len(rules), 1, api.MaxClasses) {
		return api.ErrSize
	}
	if slices.ContainsFunc(rules, func(r Rule) bool { return !r.isValid() }) || !isLeast(least) {
		return api.ErrArg
	}
	return api.OK
}

// hoursError returns the error of half hours.
func hoursError(l []Hour) api.Errno {
	if !between(len(l), 1, api.MaxHours) {
		return api.ErrSize
	}
	for i, h := range l {
		switch {
		case !h.isValid():
			return api.ErrArg
		case i > 0 && h.time() <= l[i-1].time():
			return api.ErrOrder
		}
	}
	return api.OK
}

func (h Hour) isValid() bool {
	return between(h.Day, 0, maxDay) && between(h.Slot, 0, slots-1) &&
		between(h.Light, 0, maxLight) && between(h.Temp, -maxTemp, maxTemp) &&
		(h.Known || h.Flux.Zero())
}

// time returns how many slots the half hour is behind the begin of the day 0.
func (h Hour) time() int {
	return slots*h.Day + h.Slot
}

func (r Rule) isValid() bool {
	return between(r.Days, 0, maxDay) && between(r.Slots, 0, slots-1) &&
		between(r.Light, 0, maxLight) && between(r.Temp, 0, 2*maxTemp)
}

// isLeast reports whether a number of neighbours may be asked for.
func isLeast(least int) bool {
	return between(least, 1, api.MaxHours)
}

// tests returns what another half hour has to pass if it is to be a neighbour.
func (h Hour) tests(r Rule) [5]func(Hour) bool {
	return [...]func(Hour) bool{
		func(other Hour) bool { return other.Known },
		func(other Hour) bool { return apart(h.Day, other.Day) <= r.Days },
		func(other Hour) bool { return apartAround(h.Slot, other.Slot) <= r.Slots },
		func(other Hour) bool { return apart(h.Light, other.Light) <= r.Light },
		func(other Hour) bool { return apart(h.Temp, other.Temp) <= r.Temp },
	}
}

// near returns the indices of the neighbours of a half hour.
func near(l []Hour, at int, r Rule) []int {
	tests := l[at].tests(r)
	var all []int
others:
	for i, other := range l {
		if i == at {
			continue
		}
		for _, passes := range tests {
			if !passes(other) {
				continue others
			}
		}
		all = append(all, i)
	}
	return all
}

func nearFluxes(l []Hour, at int, r Rule) []num.Frac {
	var fluxes []num.Frac
	for _, i := range near(l, at, r) {
		fluxes = append(fluxes, l[i].Flux)
	}
	return fluxes
}

// filled returns the band of a half hour, and the index of the rule that has it, and whether there is one.
func filled(l []Hour, at int, rules []Rule, least int) (num.Band, int, bool) {
	if l[at].Known {
		return num.Only(l[at].Flux), -1, true
	}
	for i, r := range rules {
		if fluxes := nearFluxes(l, at, r); len(fluxes) >= least {
			return span(fluxes), i, true
		}
	}
	return num.Band{}, 0, false
}

// span returns the band from the least to the greatest one of numbers, of which there are some.
func span(l []num.Frac) num.Band {
	band := num.Only(l[0])
	for _, x := range l[1:] {
		band = band.Hull(num.Only(x))
	}
	return band
}

func apart(a, b int) int {
	return max(a-b, b-a)
}

// apartAround returns how far two slots are from each other on the shorter way around the day.
func apartAround(a, b int) int {
	d := apart(a, b)
	return min(d, slots-d)
}
