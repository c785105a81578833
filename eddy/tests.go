package eddy

import (
	"fluxmast/api"
	"fluxmast/num"
)

const (
	// minParts is how many parts a run is divided into at least.
	minParts = 2
	// minPart is how many pairs a part has at least.
	minPart = 2
)

// Steady returns how far the covariances of parts are from that of the whole.
func Steady(x, y []float32, parts int) (num.Frac, api.Errno) {
	p, e := paired(x, y)
	switch {
	case e != api.OK:
		return num.Frac{}, e
	case !between(parts, minParts, api.MaxParts):
		return num.Frac{}, api.ErrArg
	case p.count() < minPart*parts:
		return num.Frac{}, api.ErrFew
	}
	all := p.moments().covariance()
	if all.Zero() {
		return num.Frac{}, api.ErrZero
	}
	size := p.count() / parts
	covariances := make([]num.Frac, parts)
	for i := range covariances {
		covariances[i] = p.part(i*size, (i+1)*size).moments().covariance()
	}
	return difference(mean(covariances), all), api.OK
}

// Friction returns the friction velocity.
func Friction(uw, vw num.Frac, k int) (num.Band, api.Errno) {
	stress, e := num.Root(square(uw).Add(square(vw)), k)
	if e != api.OK {
		return num.Band{}, e
	}
	return stress.Root(k)
}

// Developed returns how far turbulence is from a model.
func Developed(variance num.Frac, friction num.Band, model num.Frac) (num.Frac, api.Errno) {
	switch {
	case variance.Sign() < 0 || model.Sign() <= 0:
		return num.Frac{}, api.ErrArg
	case friction.Lo().Sign() <= 0:
		return num.Frac{}, api.ErrZero
	}
	from := func(f num.Frac) num.Frac { return difference(variance, square(model.Mul(f))) }
	low, high := from(friction.Lo()), from(friction.Hi())
	if low.Cmp(high) > 0 {
		return low, api.OK
	}
	return high, api.OK
}

// difference returns how far x is from y, which is not 0, as a part of y.
func difference(x, y num.Frac) num.Frac {
	return over(x.Sub(y), y).Abs()
}

// Skew returns the square of the skewness, and its sign.
func Skew(x []float32) (num.Frac, int, api.Errno) {
	values, e := exact(x)
	if e != api.OK {
		return num.Frac{}, 0, e
	}
	center := mean(values)
	squares, cubes := make([]num.Frac, len(values)), make([]num.Frac, len(values))
	for i, value := range values {
		far := value.Sub(center)
		squares[i] = square(far)
		cubes[i] = squares[i].Mul(far)
	}
	variance, third := mean(squares), mean(cubes)
	if variance.Zero() {
		return num.Frac{}, 0, api.ErrZero
	}
	return over(square(third), square(variance).Mul(variance)), third.Sign(), api.OK
}

// Rest returns the longest part of a series in which nothing changes.
func Rest(x []float32) (int, api.Errno) {
	if _, e := exact(x); e != api.OK {
		return 0, e
	}
	longest, length := 0, 0
	for i, sample := range x {
		if i > 0 && sample != x[i-1] {
			length = 0
		}
		length++
		longest = max(longest, length)
	}
	return longest, api.OK
}
