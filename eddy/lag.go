package eddy

import (
	"iter"

	"fluxmast/api"
	"fluxmast/num"
)

// delays is the moments of the pairs of each lag from -most to most, in order.
type delays []Moments

// Lagged returns the covariance of two series one of which is delayed.
func Lagged(x, y []float32, lag int) (num.Frac, api.Errno) {
	m, e := delayed(x, y, lag)
	if e != api.OK {
		return num.Frac{}, e
	}
	return m.covariance(), api.OK
}

// Lag returns the delay with the greatest covariance.
func Lag(x, y []float32, most int) (int, num.Frac, api.Errno) {
	l, e := allDelayed(x, y, most)
	if e != api.OK {
		return 0, num.Frac{}, e
	}
	lag := l.strongest()
	return lag, l.at(lag).covariance(), api.OK
}

// Bound returns a number that the square of a delayed covariance does not exceed.
func Bound(x, y []float32, lag int) (num.Frac, api.Errno) {
	m, e := delayed(x, y, lag)
	if e != api.OK {
		return num.Frac{}, e
	}
	return m.bound(), api.OK
}

// Proof returns bounds that prove a delay.
func Proof(x, y []float32, most int) ([]num.Frac, api.Errno) {
	l, e := allDelayed(x, y, most)
	if e != api.OK {
		return nil, e
	}
	greatest := l.at(l.strongest()).strength()
	bounds := make([]num.Frac, len(l))
	for i, m := range l {
		bounds[i] = m.bound()
		if bounds[i].Cmp(greatest) >= 0 { // it is too wide to prove anything
			bounds[i] = m.strength()
		}
	}
	return bounds, api.OK
}

// Proves reports whether bounds prove a delay.
func Proves(x, y []float32, most, lag int, bounds []num.Frac) (bool, api.Errno) {
	l, e := allDelayed(x, y, most)
	switch {
	case e != api.OK:
		return false, e
	case !between(lag, -most, most):
		return false, api.ErrArg
	case len(bounds) != len(l):
		return false, api.ErrSize
	}
	return l.proved(lag, bounds), api.OK
}

// delayed returns the moments of the pairs of a lag, with the error of Lagged.
func delayed(x, y []float32, lag int) (Moments, api.Errno) {
	p, e := paired(x, y)
	switch {
	case e != api.OK:
		return Moments{}, e
	case !between(lag, -api.MaxLag, api.MaxLag):
		return Moments{}, api.ErrArg
	case max(lag, -lag) >= p.count():
		return Moments{}, api.ErrFew
	}
	return p.delayed(lag).moments(), api.OK
}

// allDelayed returns the moments of the pairs of each lag from -most to most, with the error of Lag.
func allDelayed(x, y []float32, most int) (delays, api.Errno) {
	p, e := paired(x, y)
	switch {
	case e != api.OK:
		return nil, e
	case !between(most, 0, api.MaxLag):
		return nil, api.ErrArg
	case most >= p.count():
		return nil, api.ErrFew
	}
	l := make(delays, 2*most+1)
	for i := range l {
		l[i] = p.delayed(i - most).moments()
	}
	return l, api.OK
}

// delayed returns the pairs of a lag whose absolute value is less than the number of samples.
func (p pairs) delayed(lag int) pairs {
	n := p.count()
	return pairs{p.x[max(-lag, 0):min(n-lag, n)], p.y[max(lag, 0):min(n+lag, n)]}
}

// strength returns the square of the covariance.
func (m Moments) strength() num.Frac {
	return square(m.covariance())
}

// bound returns the product of both variances, which the strength does not exceed (Cauchy and Schwarz).
func (m Moments) bound() num.Frac {
	x, y := m.variances()
	return x.Mul(y)
}

// preferred walks the lags from -most to most from the middle, and of two that are as far from it that above 0 first:
// of lags that are equally strong, Lag chooses the first one.
func preferred(most int) iter.Seq[int] {
	return func(yield func(int) bool) {
		if !yield(0) {
			return
		}
		for lag := 1; lag <= most; lag++ {
			if !yield(lag) || !yield(-lag) {
				return
			}
		}
	}
}

// most returns the greatest lag.
func (l delays) most() int {
	return len(l) / 2
}

// at returns the moments of the pairs of a lag.
func (l delays) at(lag int) Moments {
	return l[lag+l.most()]
}

// strongest returns the lag that Lag chooses.
func (l delays) strongest() int {
	best, greatest := 0, num.Frac{}
	for lag := range preferred(l.most()) {
		if strength := l.at(lag).strength(); strength.Cmp(greatest) > 0 {
			best, greatest = lag, strength
		}
	}
	return best
}

// proved reports whether bounds, of which there is one for each lag, prove a lag.
func (l delays) proved(lag int, bounds []num.Frac) bool {
	greatest := l.at(lag).strength()
	for i, m := range l {
		if !m.admits(bounds[i], greatest) {
			return false
		}
	}
	for other := range preferred(l.most()) {
		if bounds[other+l.most()].Same(greatest) {
			return other == lag
		}
	}
	return false
}

// admits reports whether a bound may stand for these moments in the proof of a lag that is as strong as greatest.
func (m Moments) admits(bound, greatest num.Frac) bool {
	switch bound.Cmp(greatest) {
	case 1:
		return false
	case -1:
		return bound.Cmp(m.bound()) >= 0 || bound.Same(m.strength())
	}
	return bound.Same(m.strength())
}
