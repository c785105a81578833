package eddy

import (
	"fluxmast/api"
	"fluxmast/num"
)

// minTrend is how many samples a trend needs.
const minTrend = 2

// Trend returns the line that is nearest to a series.
func Trend(x []float32) (at, rise num.Frac, e api.Errno) {
	values, e := exact(x)
	if e != api.OK {
		return num.Frac{}, num.Frac{}, e
	}
	if len(values) < minTrend {
		return num.Frac{}, num.Frac{}, api.ErrFew
	}
	at, rise = trend(values)
	return at, rise, api.OK
}

// Detrended returns the covariance of two series without their trends.
func Detrended(x, y []float32) (num.Frac, api.Errno) {
	p, e := paired(x, y)
	if e != api.OK {
		return num.Frac{}, e
	}
	if p.count() < minTrend {
		return num.Frac{}, api.ErrFew
	}
	return over(dot(withoutTrend(p.x), withoutTrend(p.y)), whole(p.count())), api.OK
}

// trend returns the line that is nearest to values. There are two or more, so that there is just one such line.
func trend(values []num.Frac) (at, rise num.Frac) {
	rows := make([][]num.Frac, len(values))
	for i := range rows {
		rows[i] = []num.Frac{whole(1), whole(i)}
	}
	line, _, _ := num.Fit(rows, values)
	return line[0], line[1]
}

// withoutTrend returns what is left of values if their trend is taken away.
func withoutTrend(values []num.Frac) []num.Frac {
	at, rise := trend(values)
	left := make([]num.Frac, len(values))
	for i, x := range values {
		left[i] = x.Sub(at).Sub(rise.Mul(whole(i)))
	}
	return left
}
