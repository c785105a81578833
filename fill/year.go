package fill

import (
	"slices"

	"fluxmast/api"
	"fluxmast/num"
)

// Total returns the band of a sum.
func Total(l []num.Band) (num.Band, api.Errno) {
	if len(l) > api.MaxHours {
		return num.Band{}, api.ErrSize
	}
	var total num.Band
	for _, b := range l {
		total = total.Add(b)
	}
	return total, api.OK
}

// Spread returns the greatest standard deviation of a sum.
func Spread(l []num.Frac, most num.Frac, k int) (num.Band, api.Errno) {
	switch {
	case len(l) > api.MaxHours:
		return num.Band{}, api.ErrSize
	case slices.ContainsFunc(l, func(x num.Frac) bool { return x.Sign() < 0 }) || !isShare(most):
		return num.Band{}, api.ErrArg
	}
	sum, _ := num.Sum(l)
	squares, _ := num.Dot(l, l)
	// The square of the sum has the square of each element once, and each product of two of them twice.
	products := sum.Mul(sum).Sub(squares)
	return num.Root(squares.Add(most.Mul(products)), k)
}
