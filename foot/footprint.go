package foot

import (
	"iter"
	"slices"

	"fluxmast/api"
	"fluxmast/num"
)

// Check returns the error of a plan.
func Check(p Plan) api.Errno {
	switch {
	case p.Reach.Sign() <= 0 || p.Reach.Cmp(whole(maxReach)) > 0,
		!between(p.Size, 1, maxSize),
		!between(p.Steps, 1, api.MaxSteps),
		!between(p.Wide, 0, api.MaxWide),
		!between(p.Whole, 0, api.MaxWhole):
		return api.ErrArg
	}
	return api.OK
}

// Cumulated returns which part of a signal comes from within a distance.
func Cumulated(reach, x num.Frac, k int) (num.Band, api.Errno) {
	switch {
	case reach.Sign() <= 0 || x.Sign() < 0:
		return num.Band{}, api.ErrArg
	case x.Zero():
		return num.Band{}, api.OK
	}
	ratio, _ := reach.Div(x)
	return num.Exp(ratio.Neg(), k)
}

// Upwind returns the weights of the distances upwind, and what is left beyond them.
func Upwind(p Plan) ([]int, int, api.Errno) {
	if e := Check(p); e != api.OK {
		return nil, 0, e
	}
	l, left := slices.Collect(weights(p.cumulated())), p.Whole
	for _, weight := range l {
		left -= weight
	}
	return l, left, api.OK
}

// Across returns the weights of the cells across the wind.
func Across(n, wide int) ([]int, api.Errno) {
	if !between(n, 0, api.MaxWhole) || !between(wide, 0, api.MaxWide) {
		return nil, api.ErrArg
	}
	return across(n, wide), api.OK
}

// Map returns the weights of all cells, and what is left beyond them.
func Map(p Plan) ([][]int, int, api.Errno) {
	l, left, e := Upwind(p)
	if e != api.OK {
		return nil, 0, e
	}
	m := make([][]int, len(l))
	for i, weight := range l {
		m[i] = across(weight, p.Wide)
	}
	return m, left, api.OK
}

// Fetch returns how many cells upwind are needed for a part of the whole.
func Fetch(p Plan, part, of int) (int, api.Errno) {
	if e := Check(p); e != api.OK {
		return 0, e
	}
	if e := partError(part, of); e != api.OK {
		return 0, e
	}
	cells, needed := 0, part*p.Whole
	if needed == 0 {
		return 0, api.OK
	}
	for c := range p.cumulated() {
		cells++
		if of*c >= needed {
			return cells, api.OK
		}
	}
	return 0, api.ErrNone
}

// cumulated walks how much of the whole comes from within one cell, two cells, and so on.
func (p Plan) cumulated() iter.Seq[int] {
	return func(yield func(int) bool) {
		for i := 1; i <= p.Steps; i++ {
			ratio, _ := p.Reach.Div(whole(p.Size * i))
			if !yield(fallen(p.Whole, ratio)) {
				return
			}
		}
	}
}

// divided walks how much of n the first cell across has, the first two, and so on.
func divided(n, wide int) iter.Seq[int] {
	return func(yield func(int) bool) {
		ways, sum := 1, 0
		for i := range 2*wide + 1 {
			sum += ways
			if !yield(n * sum >> (2 * wide)) {
				return
			}
			ways = ways * (2*wide - i) / (i + 1)
		}
	}
}

// weights walks what each cumulated number has more than the one ahead of it, the first one more than 0.
func weights(cumulated iter.Seq[int]) iter.Seq[int] {
	return func(yield func(int) bool) {
		before := 0
		for c := range cumulated {
			if !yield(c - before) {
				return
			}
			before = c
		}
	}
}

func across(n, wide int) []int {
	return slices.Collect(weights(divided(n, wide)))
}
