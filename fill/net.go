package fill

import (
	"slices"

	"fluxmast/api"
)

const (
	// maxSize is the greatest absolute value of a weight, a start or an input, so that no sum of a net leaves an int.
	maxSize  = 1 << 16
	maxShift = 30
)

// CheckNet returns the error of a net.
func CheckNet(n Net) api.Errno {
	switch {
	case !n.fits():
		return api.ErrSize
	case !n.isSmall() || !between(n.Shift, 0, maxShift):
		return api.ErrArg
	}
	return api.OK
}

// Answer returns what a net answers.
func Answer(n Net, in []int) (int, api.Errno) {
	if e := n.sizeError(len(in)); e != api.OK {
		return 0, e
	}
	alone := make([]api.Range, len(in))
	for i, x := range in {
		alone[i] = api.Range{Lo: x, Hi: x}
	}
	answer, e := Answers(n, alone)
	return answer.Lo, e
}

// Answers returns a range that has all answers of a net to numbers in ranges.
func Answers(n Net, in []api.Range) (api.Range, api.Errno) {
	if e := n.inputError(in); e != api.OK {
		return api.Range{}, e
	}
	var hidden [api.MaxUnits]api.Range
	for i, row := range n.Weights {
		sum := n.sum(n.Starts[i], row, in)
		hidden[i] = api.Range{Lo: max(sum.Lo, 0), Hi: max(sum.Hi, 0)}
	}
	return n.sum(n.Start, n.Last, hidden[:]), api.OK
}

// fits reports whether the lists of a net have the lengths that fit together.
func (n Net) fits() bool {
	units := len(n.Weights)
	if !between(units, 1, api.MaxUnits) || len(n.Starts) != units || len(n.Last) != units {
		return false
	}
	inputs := len(n.Weights[0])
	return between(inputs, 1, api.MaxUnits) &&
		!slices.ContainsFunc(n.Weights, func(row []int) bool { return len(row) != inputs })
}

// isSmall reports whether no weight and no start is too great.
func (n Net) isSmall() bool {
	all := slices.Concat(slices.Concat(n.Weights...), n.Starts, n.Last, []int{n.Start})
	return !slices.ContainsFunc(all, func(x int) bool { return !isSmall(x) })
}

func isSmall(x int) bool {
	return between(x, -maxSize, maxSize)
}

// sizeError returns the error of a net, or else that of a number of inputs.
func (n Net) sizeError(inputs int) api.Errno {
	if e := CheckNet(n); e != api.OK {
		return e
	}
	if inputs != len(n.Weights[0]) {
		return api.ErrSize
	}
	return api.OK
}

// inputError returns the first error of Answers. Those of Answer come ahead for all ranges, so that one whose ends are in
// the wrong order does not hide a later one that is too great.
func (n Net) inputError(in []api.Range) api.Errno {
	if e := n.sizeError(len(in)); e != api.OK {
		return e
	}
	switch {
	case slices.ContainsFunc(in, func(x api.Range) bool { return !isSmall(x.Lo) || !isSmall(x.Hi) }):
		return api.ErrArg
	case slices.ContainsFunc(in, func(x api.Range) bool { return x.Lo > x.Hi }):
		return api.ErrOrder
	}
	return api.OK
}

// sum returns the least and the greatest number that a start and weighted values have together, divided by 2^Shift.
func (n Net) sum(start int, weights []int, values []api.Range) api.Range {
	lo, hi := start, start
	for i, weight := range weights {
		a, b := weight*values[i].Lo, weight*values[i].Hi
		lo += min(a, b)
		hi += max(a, b)
	}
	return api.Range{Lo: lo >> n.Shift, Hi: hi >> n.Shift}
}
