package sonic

import (
	"fluxmast/api"
	"fluxmast/num"
)

// Plane says which vertical wind belongs to a horizontal one: B0 + B1 u + B2 v.
type Plane struct{ B0, B1, B2 num.Frac }

// minWinds is how many winds a plane needs.
const minWinds = 3

// checkWinds returns the error of winds.
func checkWinds(l []Vec) api.Errno {
	if len(l) > api.MaxRuns {
		return api.ErrSize
	}
	return api.OK
}

// Mean returns the mean of winds.
func Mean(l []Vec) (Vec, api.Errno) {
	if e := checkWinds(l); e != api.OK {
		return Vec{}, e
	}
	if len(l) == 0 {
		return Vec{}, api.ErrNone
	}
	var mean Vec
	for i := range mean {
		sum, _ := num.Sum(components(l, i))
		mean[i] = over(sum, whole(len(l)))
	}
	return mean, api.OK
}

// components returns a component of each wind.
func components(l []Vec, i int) []num.Frac {
	all := make([]num.Frac, len(l))
	for at, v := range l {
		all[at] = v[i]
	}
	return all
}

// Fit returns the plane that fits mean winds best.
func Fit(l []Vec) (Plane, api.Errno) {
	if e := checkWinds(l); e != api.OK {
		return Plane{}, e
	}
	if len(l) < minWinds {
		return Plane{}, api.ErrNone
	}
	rows := make([][]num.Frac, len(l))
	for i, v := range l {
		rows[i] = []num.Frac{whole(1), v[0], v[1]}
	}
	b, _, e := num.Fit(rows, components(l, 2))
	if e != api.OK {
		return Plane{}, e
	}
	return Plane{B0: b[0], B1: b[1], B2: b[2]}, api.OK
}

// Rest returns how far mean winds are above a plane.
func Rest(p Plane, l []Vec) ([]num.Frac, api.Errno) {
	if e := checkWinds(l); e != api.OK {
		return nil, e
	}
	rest := make([]num.Frac, len(l))
	for i, v := range l {
		rest[i] = Level(p, v)[2]
	}
	return rest, api.OK
}

// Level returns a wind whose vertical part is counted from a plane.
func Level(p Plane, v Vec) Vec {
	height := p.B0.Add(p.B1.Mul(v[0])).Add(p.B2.Mul(v[1]))
	return Vec{v[0], v[1], v[2].Sub(height)}
}
