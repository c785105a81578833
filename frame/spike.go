package frame

import (
	"slices"

	"fluxmast/api"
	"fluxmast/num"
)

const maxTimes = 1000

// Median returns the middle one of readings.
func Median(l []float32) (num.Frac, api.Errno) {
	values, e := exact(l)
	if e != api.OK {
		return num.Frac{}, e
	}
	return median(values), api.OK
}

// Spikes tells which readings are far away from their neighbours.
func Spikes(l []float32, width, times int) ([]bool, api.Errno) {
	values, e := exact(l)
	if e != api.OK {
		return nil, e
	}
	if width < 1 || width > api.MaxSeries || times < 1 || times > maxTimes {
		return nil, api.ErrArg
	}
	spikes := make([]bool, len(values))
	for i, x := range values {
		near := values[max(i-width, 0):min(i+width+1, len(values))]
		middle := median(near)
		usual := median(distances(near, middle))
		spikes[i] = x.Sub(middle).Abs().Cmp(usual.Mul(num.Int(int64(times)))) > 0
	}
	return spikes, api.OK
}

// exact returns the exact values of readings.
func exact(l []float32) ([]num.Frac, api.Errno) {
	if len(l) < 1 || len(l) > api.MaxSeries {
		return nil, api.ErrSize
	}
	values := make([]num.Frac, len(l))
	for i, reading := range l {
		x, e := num.Float(float64(reading))
		if e != api.OK {
			return nil, e
		}
		values[i] = x
	}
	return values, api.OK
}

// median returns the middle one of values, of which there is at least one; of two middle ones the lesser.
func median(values []num.Frac) num.Frac {
	sorted := slices.Clone(values)
	slices.SortFunc(sorted, num.Frac.Cmp)
	return sorted[(len(sorted)-1)/2]
}

// distances returns how far away from the middle each value is.
func distances(values []num.Frac, middle num.Frac) []num.Frac {
	l := make([]num.Frac, len(values))
	for i, x := range values {
		l[i] = x.Sub(middle).Abs()
	}
	return l
}
