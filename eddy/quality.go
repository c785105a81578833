package eddy

import (
	"fluxmast/api"
	"fluxmast/num"
)

// Tests are what was found in a run: the relative difference of covariances, that of turbulence, the square of the skewness, the longest rest, and the samples that are missing.
type Tests struct {
	Steady, Developed, Skew num.Frac
	Rest, Missing           int
}

// Limits are the greatest permitted values of tests.
type Limits struct {
	Steady, Developed, Skew num.Frac
	Rest, Missing           int
}

// Grade is the quality of a run: 0, the best one, to 2, and the tests that were not passed.
type Grade struct {
	Class   int
	Reasons []int
}

// The classes of a Grade.
const (
	classBest = iota
	classUsable
	classPoor
)

// The numbers of the tests.
const (
	testSteady = iota
	testDeveloped
	testSkew
	testRest
	testMissing
)

// Judge returns the quality of a run.
func Judge(t Tests, best, usable Limits) (Grade, api.Errno) {
	switch {
	case anyBelow(t) || anyBelow(Tests(best)) || anyBelow(Tests(usable)):
		return Grade{}, api.ErrArg
	case len(Tests(best).failed(usable)) > 0:
		return Grade{}, api.ErrOrder
	}
	reasons := t.failed(best)
	class := classPoor
	switch {
	case len(reasons) == 0:
		class = classBest
	case len(t.failed(usable)) == 0:
		class = classUsable
	}
	return Grade{Class: class, Reasons: reasons}, api.OK
}

// anyBelow reports whether a value is below 0.
func anyBelow(t Tests) bool {
	return len(Tests{}.failed(Limits(t))) > 0
}

// failed returns the numbers of the tests that are not passed with limits, ascending.
func (t Tests) failed(l Limits) []int {
	passed := [...]func() bool{
		testSteady:    func() bool { return t.Steady.Cmp(l.Steady) <= 0 },
		testDeveloped: func() bool { return t.Developed.Cmp(l.Developed) <= 0 },
		testSkew:      func() bool { return t.Skew.Cmp(l.Skew) <= 0 },
		testRest:      func() bool { return t.Rest <= l.Rest },
		testMissing:   func() bool { return t.Missing <= l.Missing },
	}
	var numbers []int
	for number, passes := range passed {
		if !passes() {
			numbers = append(numbers, number)
		}
	}
	return numbers
}
