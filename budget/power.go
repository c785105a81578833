package budget

import (
	"iter"
	"slices"

	"fluxmast/api"
)

const (
	// maxPower is the greatest capacity of batteries, need of a day, or sun of a day.
	maxPower = 1 << 30
	// noDay stands for a day that there is not.
	noDay = -1
)

// Charges returns the charge of a station behind each day of a plan.
func Charges(s Station, charge api.Range, sun []api.Range, plan []int) ([]api.Range, api.Errno) {
	if e := s.planError(charge, sun, plan); e != api.OK {
		return nil, e
	}
	var charges []api.Range
	for _, left := range s.days(charge, sun, plan) {
		charges = append(charges, api.Range{Lo: max(left.Lo, 0), Hi: max(left.Hi, 0)})
	}
	return charges, api.OK
}

// Safe returns the first day on which a plan may come below the floor, or -1.
func Safe(s Station, charge api.Range, sun []api.Range, plan []int) (int, api.Errno) {
	if e := s.planError(charge, sun, plan); e != api.OK {
		return 0, e
	}
	return s.firstUnsafe(charge, sun, plan), api.OK
}

// Plan returns the best safe plan.
func Plan(s Station, charge api.Range, sun []api.Range) ([]int, api.Errno) {
	if e := s.winterError(charge, sun); e != api.OK {
		return nil, e
	}
	plan := slices.Repeat([]int{Asleep}, len(sun))
	isSafe := func() bool { return s.firstUnsafe(charge, sun, plan) == noDay }
	if !isSafe() {
		return nil, api.ErrPower
	}
	// Whoever needs less has no less charge on any day behind, so that days that are decided can go on just if they can go
	// on asleep.
	for day := range plan {
		for _, mode := range [...]int{Normal, Saving, Asleep} {
			plan[day] = mode
			if isSafe() {
				break
			}
		}
	}
	return plan, api.OK
}

// stationError returns the error of a station.
func (s Station) stationError() api.Errno {
	switch {
	case !between(s.Capacity, 1, maxPower) || !between(s.Floor, 0, s.Capacity):
		return api.ErrArg
	case slices.ContainsFunc(s.Need[:], func(n int) bool { return !between(n, 0, maxPower) }):
		return api.ErrArg
	case s.Need[Normal] < s.Need[Saving] || s.Need[Saving] < s.Need[Asleep]:
		return api.ErrOrder
	}
	return api.OK
}

// winterError returns the error of a winter.
func (s Station) winterError(charge api.Range, sun []api.Range) api.Errno {
	if e := s.stationError(); e != api.OK {
		return e
	}
	if len(sun) > api.MaxDays {
		return api.ErrSize
	}
	if e := rangeError(charge, s.Capacity); e != api.OK {
		return e
	}
	for _, x := range sun {
		if e := rangeError(x, maxPower); e != api.OK {
			return e
		}
	}
	return api.OK
}

// planError returns the error of a winter, or else that of a plan for it.
func (s Station) planError(charge api.Range, sun []api.Range, plan []int) api.Errno {
	if e := s.winterError(charge, sun); e != api.OK {
		return e
	}
	switch {
	case len(plan) != len(sun):
		return api.ErrSize
	case slices.ContainsFunc(plan, func(mode int) bool { return !between(mode, Normal, Asleep) }):
		return api.ErrArg
	}
	return api.OK
}

// rangeError returns the error of a range of numbers from 0 to most.
func rangeError(x api.Range, most int) api.Errno {
	switch {
	case !between(x.Lo, 0, most) || !between(x.Hi, 0, most):
		return api.ErrArg
	case x.Lo > x.Hi:
		return api.ErrOrder
	}
	return api.OK
}

// days walks the days of a plan, with what is left behind each one. What is below 0 was missing on this day.
func (s Station) days(charge api.Range, sun []api.Range, plan []int) iter.Seq2[int, api.Range] {
	return func(yield func(int, api.Range) bool) {
		left := charge
		for day, mode := range plan {
			left = api.Range{Lo: s.left(left.Lo, sun[day].Lo, mode), Hi: s.left(left.Hi, sun[day].Hi, mode)}
			if !yield(day, left) {
				return
			}
		}
	}
}

// left returns what is left behind a day, by what was left ahead of it.
func (s Station) left(ahead, sun, mode int) int {
	return min(max(ahead, 0)+sun, s.Capacity) - s.Need[mode]
}

// firstUnsafe returns the first day of a plan that is not safe. Since Floor is not below 0, a day on which something was
// missing is below it, too.
func (s Station) firstUnsafe(charge api.Range, sun []api.Range, plan []int) int {
	for day, left := range s.days(charge, sun, plan) {
		if left.Lo < s.Floor {
			return day
		}
	}
	return noDay
}
