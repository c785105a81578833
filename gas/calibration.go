package gas

import (
	"sort"

	"fluxmast/api"
	"fluxmast/num"
)

// Line is a calibration: a value is Offset plus Slope times a reading.
type Line struct{ Slope, Offset num.Frac }

// Check is what an analyser reads of a low and of a high cylinder at a time (in seconds).
type Check struct {
	Time      int
	Low, High num.Frac
}

// Calibrate returns the calibration by two cylinders.
func Calibrate(low, high, readLow, readHigh num.Frac) (Line, api.Errno) {
	switch {
	case low.Cmp(high) >= 0:
		return Line{}, api.ErrOrder
	case readLow.Same(readHigh):
		return Line{}, api.ErrZero
	}
	slope := over(high.Sub(low), readHigh.Sub(readLow))
	return Line{Slope: slope, Offset: low.Sub(slope.Mul(readLow))}, api.OK
}

// Apply returns the value of a reading.
func Apply(x Line, reading num.Frac) num.Frac {
	return x.Offset.Add(x.Slope.Mul(reading))
}

// Interpolated returns what a check at a time would have read.
func Interpolated(l []Check, time int) (Check, api.Errno) {
	if e := checkChecks(l); e != api.OK {
		return Check{}, e
	}
	if !between(time, -maxTime, maxTime) {
		return Check{}, api.ErrArg
	}
	at := last(l, time)
	if at < 0 {
		return Check{}, api.ErrNone
	}
	from := l[at]
	if at+1 == len(l) {
		return Check{Time: time, Low: from.Low, High: from.High}, api.OK
	}
	to := l[at+1]
	part := over(whole(time-from.Time), whole(to.Time-from.Time))
	return Check{Time: time, Low: toward(from.Low, to.Low, part), High: toward(from.High, to.High, part)}, api.OK
}

// toward returns the number that has come a part of the way from one number to another one.
func toward(from, to, part num.Frac) num.Frac {
	return from.Add(to.Sub(from).Mul(part))
}

// Corrected returns the value of a reading at a time.
func Corrected(l []Check, low, high num.Frac, time, most int, reading num.Frac) (num.Frac, api.Errno) {
	now, e := Interpolated(l, time)
	switch {
	case e != api.OK:
		return num.Frac{}, e
	case most < 0:
		return num.Frac{}, api.ErrArg
	case time-l[last(l, time)].Time > most:
		return num.Frac{}, api.ErrStale
	}
	x, e := Calibrate(low, high, now.Low, now.High)
	if e != api.OK {
		return num.Frac{}, e
	}
	return Apply(x, reading), api.OK
}

// Spread returns the values of a reading for all values that the cylinders may have.
func Spread(low, high num.Band, readLow, readHigh, reading num.Frac) (num.Band, api.Errno) {
	part, e := reading.Sub(readLow).Div(readHigh.Sub(readLow))
	if e != api.OK {
		return num.Band{}, e
	}
	rest := whole(1).Sub(part)
	return low.Mul(num.Only(rest)).Add(high.Mul(num.Only(part))), api.OK
}

// checkChecks returns the error of checks.
func checkChecks(l []Check) api.Errno {
	if !between(len(l), 1, api.MaxChecks) {
		return api.ErrSize
	}
	for i, c := range l {
		switch {
		case !between(c.Time, -maxTime, maxTime):
			return api.ErrArg
		case i > 0 && c.Time <= l[i-1].Time:
			return api.ErrOrder
		}
	}
	return api.OK
}

// last returns the index of the last check that is not behind a time, or -1.
func last(l []Check, time int) int {
	return sort.Search(len(l), func(i int) bool { return l[i].Time > time }) - 1
}
