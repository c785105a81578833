package eddy

import (
	"fluxmast/api"
	"fluxmast/num"
)

// Moments are the number of pairs of samples, and the sums of both, of their squares, and of their products.
type Moments struct {
	Count            int
	X, Y, XX, YY, XY num.Frac
}

// maxCount is the greatest number of pairs.
const maxCount = 1 << 40

// Of returns the moments of two series.
func Of(x, y []float32) (Moments, api.Errno) {
	p, e := paired(x, y)
	if e != api.OK {
		return Moments{}, e
	}
	return p.moments(), api.OK
}

// Check returns the error of moments.
func Check(m Moments) api.Errno {
	xx, yy, xy := m.central()
	switch {
	case !between(m.Count, 0, maxCount),
		xx.Sign() < 0 || yy.Sign() < 0,
		square(xy).Cmp(xx.Mul(yy)) > 0,
		m.Count == 0 && !m.allZero():
		return api.ErrArg
	}
	return api.OK
}

// Plus returns the moments of two parts together.
func Plus(a, b Moments) (Moments, api.Errno) {
	if e := checkBoth(a, b); e != api.OK {
		return Moments{}, e
	}
	if a.Count+b.Count > maxCount {
		return Moments{}, api.ErrFull
	}
	return a.plus(b), api.OK
}

// Less returns the moments of what is left if a part is taken away.
func Less(a, b Moments) (Moments, api.Errno) {
	if e := checkBoth(a, b); e != api.OK {
		return Moments{}, e
	}
	if a.Count < b.Count {
		return Moments{}, api.ErrOrder
	}
	left := a.less(b)
	if e := Check(left); e != api.OK { // the part was not in the whole
		return Moments{}, e
	}
	return left, api.OK
}

// Means returns the means of both series.
func Means(m Moments) (x, y num.Frac, e api.Errno) {
	if e := checkSome(m); e != api.OK {
		return num.Frac{}, num.Frac{}, e
	}
	n := whole(m.Count)
	return over(m.X, n), over(m.Y, n), api.OK
}

// Covariance returns the covariance of both series.
func Covariance(m Moments) (num.Frac, api.Errno) {
	if e := checkSome(m); e != api.OK {
		return num.Frac{}, e
	}
	return m.covariance(), api.OK
}

// Variances returns the variances of both series.
func Variances(m Moments) (x, y num.Frac, e api.Errno) {
	if e := checkSome(m); e != api.OK {
		return num.Frac{}, num.Frac{}, e
	}
	x, y = m.variances()
	return x, y, api.OK
}

// Running returns the moments of all beginnings of two series.
func Running(x, y []float32) ([]Moments, api.Errno) {
	p, e := paired(x, y)
	if e != api.OK {
		return nil, e
	}
	all := make([]Moments, p.count())
	var m Moments
	for i := range all {
		m = m.plus(p.part(i, i+1).moments())
		all[i] = m
	}
	return all, api.OK
}

// checkBoth returns the error of a, then that of b.
func checkBoth(a, b Moments) api.Errno {
	if e := Check(a); e != api.OK {
		return e
	}
	return Check(b)
}

// checkSome returns the error of moments that need a pair.
func checkSome(m Moments) api.Errno {
	if e := Check(m); e != api.OK {
		return e
	}
	if m.Count == 0 {
		return api.ErrFew
	}
	return api.OK
}

func (p pairs) moments() Moments {
	return Moments{
		Count: p.count(),
		X:     sum(p.x),
		Y:     sum(p.y),
		XX:    dot(p.x, p.x),
		YY:    dot(p.y, p.y),
		XY:    dot(p.x, p.y),
	}
}

// central returns both variances and the covariance, times the square of Count: so they need no pair.
func (m Moments) central() (xx, yy, xy num.Frac) {
	n := whole(m.Count)
	xx = n.Mul(m.XX).Sub(square(m.X))
	yy = n.Mul(m.YY).Sub(square(m.Y))
	xy = n.Mul(m.XY).Sub(m.X.Mul(m.Y))
	return xx, yy, xy
}

// covariance returns the covariance, for a Count above 0.
func (m Moments) covariance() num.Frac {
	_, _, xy := m.central()
	return over(xy, square(whole(m.Count)))
}

// variances returns both variances, for a Count above 0.
func (m Moments) variances() (x, y num.Frac) {
	xx, yy, _ := m.central()
	n := square(whole(m.Count))
	return over(xx, n), over(yy, n)
}

func (m Moments) allZero() bool {
	return m.X.Zero() && m.Y.Zero() && m.XX.Zero() && m.YY.Zero() && m.XY.Zero()
}

func (m Moments) plus(o Moments) Moments {
	return Moments{
		Count: m.Count + o.Count,
		X:     m.X.Add(o.X),
		Y:     m.Y.Add(o.Y),
		XX:    m.XX.Add(o.XX),
		YY:    m.YY.Add(o.YY),
		XY:    m.XY.Add(o.XY),
	}
}

func (m Moments) less(o Moments) Moments {
	return Moments{
		Count: m.Count - o.Count,
		X:     m.X.Sub(o.X),
		Y:     m.Y.Sub(o.Y),
		XX:    m.XX.Sub(o.XX),
		YY:    m.YY.Sub(o.YY),
		XY:    m.XY.Sub(o.XY),
	}
}
