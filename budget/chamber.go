package budget

import (
	"fluxmast/api"
	"fluxmast/num"
)

const (
	dayMinutes = 1440
	maxMinute  = 1 << 40
	// minReadings is how many readings a slope needs.
	minReadings = 2
)

// Which returns the chamber that is closed in a minute, and since when.
func Which(minutes []int, minute int) (chamber, since int, e api.Errno) {
	if !between(len(minutes), 1, api.MaxChambers) {
		return 0, 0, api.ErrSize
	}
	round := 0
	for _, n := range minutes {
		if !between(n, 1, dayMinutes) {
			return 0, 0, api.ErrArg
		}
		round += n
	}
	if !between(minute, 0, maxMinute) {
		return 0, 0, api.ErrArg
	}
	since = minute % round
	for since >= minutes[chamber] {
		since -= minutes[chamber]
		chamber++
	}
	return chamber, since, api.OK
}

// Rise returns the slope of readings, and what it leaves.
func Rise(l []Reading) (slope, rest num.Frac, e api.Errno) {
	if !between(len(l), minReadings, api.MaxFit) {
		return num.Frac{}, num.Frac{}, api.ErrSize
	}
	rows, values := make([][]num.Frac, len(l)), make([]num.Frac, len(l))
	for i, x := range l {
		if !between(x.Second, 0, daySeconds) {
			return num.Frac{}, num.Frac{}, api.ErrArg
		}
		rows[i], values[i] = []num.Frac{whole(1), whole(x.Second)}, x.Value
	}
	line, rest, e := num.Fit(rows, values)
	if e != api.OK {
		return num.Frac{}, num.Frac{}, e
	}
	return line[1], rest, api.OK
}

// Efflux returns what comes from the ground into a chamber.
func Efflux(slope, volume, area num.Frac) (num.Frac, api.Errno) {
	if volume.Sign() < 0 || area.Sign() <= 0 {
		return num.Frac{}, api.ErrArg
	}
	return slope.Mul(volume).Div(area)
}
