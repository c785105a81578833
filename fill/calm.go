package fill

import (
	"iter"
	"slices"

	"fluxmast/api"
	"fluxmast/num"
)

// maxOf is the greatest denominator of a part of numbers.
const maxOf = 1000

// Calm returns the friction velocity below which the flux is too small.
func Calm(l []Night, classes int, part num.Frac) (num.Frac, api.Errno) {
	if e := calmError(l, classes, part); e != api.OK {
		return num.Frac{}, e
	}
	return calm(l, classes, part)
}

// Calms returns the thresholds of resamples.
func Calms(l []Night, classes int, part num.Frac, seed uint64, times int) ([]num.Frac, int, api.Errno) {
	if e := calmError(l, classes, part); e != api.OK {
		return nil, 0, e
	}
	if !between(times, 1, api.MaxTimes) {
		return nil, 0, api.ErrArg
	}
	var found []num.Frac
	for drawn := range resamples(l, seed, times) {
		if threshold, e := calm(drawn, classes, part); e == api.OK {
			found = append(found, threshold)
		}
	}
	slices.SortFunc(found, num.Frac.Cmp)
	return found, times - len(found), api.OK
}

// Middle returns the band that has a share of numbers in the middle.
func Middle(l []num.Frac, part, of int) (num.Band, api.Errno) {
	switch {
	case !between(len(l), 1, api.MaxHours):
		return num.Band{}, api.ErrSize
	case !between(of, 1, maxOf) || !between(part, 0, of):
		return num.Band{}, api.ErrArg
	}
	sorted := slices.SortedFunc(slices.Values(l), num.Frac.Cmp)
	last := len(l) - 1
	cut := last * (of - part) / (2 * of)
	return num.Make(sorted[cut], sorted[last-cut])
}

// calmError returns the first error of Calm, but for ErrCalm.
func calmError(l []Night, classes int, part num.Frac) api.Errno {
	switch {
	case !between(len(l), 1, api.MaxHours):
		return api.ErrSize
	case slices.ContainsFunc(l, func(n Night) bool { return n.Friction.Sign() < 0 }):
		return api.ErrArg
	case !between(classes, 2, api.MaxClasses) || !isShare(part):
		return api.ErrArg
	case len(l) < classes:
		return api.ErrSize
	}
	return api.OK
}

// calm returns the threshold of nights, of which each class has one or more.
func calm(l []Night, classes int, part num.Frac) (num.Frac, api.Errno) {
	sorted := slices.Clone(l)
	slices.SortStableFunc(sorted, func(a, b Night) int { return a.Friction.Cmp(b.Friction) })
	for c := range classes - 1 {
		from, to := c*len(l)/classes, (c+1)*len(l)/classes
		own, behind := meanFlux(sorted[from:to]), meanFlux(sorted[to:])
		if own.Cmp(part.Mul(behind)) >= 0 {
			return sorted[from].Friction, api.OK
		}
	}
	return num.Frac{}, api.ErrCalm
}

// resamples walks resamples of nights. The seed of each one is the last state of the one ahead, so that one generator
// draws them all.
func resamples(l []Night, seed uint64, times int) iter.Seq[[]Night] {
	return func(yield func([]Night) bool) {
		next := generator(seed)
		for range times {
			numbers, _ := sample(next, len(l))
			drawn := make([]Night, len(l))
			for i, number := range numbers {
				drawn[i] = l[number]
			}
			if !yield(drawn) {
				return
			}
		}
	}
}

func meanFlux(l []Night) num.Frac {
	fluxes := make([]num.Frac, len(l))
	for i, n := range l {
		fluxes[i] = n.Flux
	}
	return mean(fluxes)
}
