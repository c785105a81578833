package gas

import (
	"slices"

	"fluxmast/api"
	"fluxmast/num"
)

// Slot says that a switched analyser draws from a level, from a time on.
type Slot struct{ From, Level int }

const (
	// noLevel is the level of samples that are of no use.
	noLevel    = -1
	maxHeight  = 10000
	maxSeconds = 1 << 20
)

// Levels returns from which level each sample was drawn.
func Levels(slots []Slot, flush int, times []int) ([]int, api.Errno) {
	if e := checkSlots(slots); e != api.OK {
		return nil, e
	}
	switch {
	case !between(flush, 0, maxTime):
		return nil, api.ErrArg
	case len(times) > api.MaxSamples:
		return nil, api.ErrSize
	}
	levels := make([]int, len(times))
search:
	for i, time := range times {
		levels[i] = noLevel
		for at, slot := range slices.Backward(slots) {
			switch {
			case slot.From > time: // not yet
			case switched(slots, at) && time-slot.From < flush: // air of another level is still in the tubes
				continue search
			default:
				levels[i] = slot.Level
				continue search
			}
		}
	}
	return levels, api.OK
}

// switched reports whether another level was drawn ahead of a slot.
func switched(slots []Slot, at int) bool {
	return at == 0 || slots[at-1].Level != slots[at].Level
}

// checkSlots returns the error of slots.
func checkSlots(slots []Slot) api.Errno {
	if len(slots) > api.MaxSlots {
		return api.ErrSize
	}
	for i, slot := range slots {
		switch {
		case !between(slot.From, 0, maxTime) || !between(slot.Level, 0, api.MaxLevels-1):
			return api.ErrArg
		case i > 0 && slot.From <= slots[i-1].From:
			return api.ErrOrder
		}
	}
	return api.OK
}

// Means returns the mean of the samples of each level, and how many there are.
func Means(levels []int, values []num.Frac, n int) ([]num.Frac, []int, api.Errno) {
	if e := checkLevels(levels, len(values), n); e != api.OK {
		return nil, nil, e
	}
	samples := make([][]num.Frac, n)
	for i, level := range levels {
		if level != noLevel {
			samples[level] = append(samples[level], values[i])
		}
	}
	means, counts := make([]num.Frac, n), make([]int, n)
	for level, l := range samples {
		counts[level] = len(l)
		if len(l) > 0 {
			sum, _ := num.Sum(l)
			means[level] = over(sum, whole(len(l)))
		}
	}
	return means, counts, api.OK
}

// checkLevels returns the error of the levels of as many values.
func checkLevels(levels []int, values, n int) api.Errno {
	switch {
	case !between(n, 1, api.MaxLevels):
		return api.ErrArg
	case len(levels) > api.MaxSamples || values != len(levels):
		return api.ErrSize
	}
	for _, level := range levels {
		if !between(level, noLevel, n-1) {
			return api.ErrArg
		}
	}
	return api.OK
}

// Column returns how much gas there is below the highest level.
func Column(heights []int, values []num.Frac) (num.Frac, api.Errno) {
	if e := checkHeights(heights, len(values)); e != api.OK {
		return num.Frac{}, e
	}
	return num.Dot(layers(heights), values)
}

// checkHeights returns the error of the heights of as many values.
func checkHeights(heights []int, values int) api.Errno {
	if !between(len(heights), 1, api.MaxLevels) || values != len(heights) {
		return api.ErrSize
	}
	for i, height := range heights {
		switch {
		case !between(height, 1, maxHeight):
			return api.ErrArg
		case i > 0 && height <= heights[i-1]:
			return api.ErrOrder
		}
	}
	return api.OK
}

// layers returns how thick the layer of each height is.
func layers(heights []int) []num.Frac {
	thick := make([]num.Frac, len(heights))
	bottom := 0 // twice the height at which a layer begins, which is a whole number
	for i, height := range heights {
		above := heights[min(i+1, len(heights)-1)]
		top := height + above
		thick[i] = over(whole(top-bottom), whole(2))
		bottom = top
	}
	return thick
}

// Stored returns how much gas was stored below the highest level in a second.
func Stored(heights []int, before, after []num.Frac, seconds int) (num.Frac, api.Errno) {
	first, e := Column(heights, before)
	if e != api.OK {
		return num.Frac{}, e
	}
	second, e := Column(heights, after)
	if e != api.OK {
		return num.Frac{}, e
	}
	if !between(seconds, 1, maxSeconds) {
		return num.Frac{}, api.ErrArg
	}
	return over(second.Sub(first), whole(seconds)), api.OK
}
