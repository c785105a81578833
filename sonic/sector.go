package sonic

import (
	"cmp"
	"iter"
	"slices"

	"fluxmast/api"
	"fluxmast/num"
)

// Fitted is the plane of a sector, if there is one.
type Fitted struct {
	Plane Plane
	Known bool
}

// direction is a horizontal vector.
type direction struct{ x, y num.Frac }

func horizontal(v Vec) direction {
	return direction{v[0], v[1]}
}

func (d direction) zero() bool {
	return d.x.Zero() && d.y.Zero()
}

// side returns 1, if d is to the left of o, -1, if it is to the right, and 0, if both are on one line.
func (d direction) side(o direction) int {
	return o.x.Mul(d.y).Cmp(o.y.Mul(d.x))
}

// faces reports whether the angle between d and o is less than a right one.
func (d direction) faces(o direction) bool {
	return d.x.Mul(o.x).Add(d.y.Mul(o.y)).Sign() > 0
}

// half returns 0, if the angle from first to d is less than half a turn, and otherwise 1.
func (d direction) half(first direction) int {
	if side := d.side(first); side > 0 || side == 0 && d.faces(first) {
		return 0
	}
	return 1
}

// compare compares the angle from first to d with that from first to o.
func (d direction) compare(o, first direction) int {
	if c := cmp.Compare(d.half(first), o.half(first)); c != 0 {
		return c
	}
	return d.side(o)
}

// sector returns the last one of the directions l whose angle from the first one is not above that of d.
func (d direction) sector(l []direction) int {
	at := 0
	for i, begin := range l[1:] {
		if begin.compare(d, l[0]) <= 0 {
			at = i + 1
		}
	}
	return at
}

// directions returns the directions of sectors, with the error of sectors.
func directions(l []api.Point) ([]direction, api.Errno) {
	if len(l) < 1 || len(l) > api.MaxSectors {
		return nil, api.ErrSize
	}
	all := make([]direction, len(l))
	for i, p := range l {
		if p == (api.Point{}) || !small(p.X) || !small(p.Y) {
			return nil, api.ErrArg
		}
		all[i] = direction{whole(p.X), whole(p.Y)}
		// The first one has the angle 0, so that no later one may have it.
		if i > 0 && all[i].compare(all[i-1], all[0]) <= 0 {
			return nil, api.ErrOrder
		}
	}
	return all, api.OK
}

// Sector returns the sector of a wind.
func Sector(l []api.Point, v Vec) (int, api.Errno) {
	all, e := directions(l)
	if e != api.OK {
		return 0, e
	}
	d := horizontal(v)
	if d.zero() {
		return 0, api.ErrZero
	}
	return d.sector(all), api.OK
}

// Fits returns the planes of all sectors.
func Fits(l []api.Point, winds []Vec) ([]Fitted, api.Errno) {
	all, e := directions(l)
	if e != api.OK {
		return nil, e
	}
	if e := checkWinds(winds); e != api.OK {
		return nil, e
	}
	fits := make([]Fitted, len(all))
	for i := range fits {
		plane, e := Fit(slices.Collect(within(all, i, winds)))
		fits[i] = Fitted{Plane: plane, Known: e == api.OK}
	}
	return fits, api.OK
}

// within walks the winds that lie in a sector.
func within(l []direction, sector int, winds []Vec) iter.Seq[Vec] {
	return func(yield func(Vec) bool) {
		for _, v := range winds {
			d := horizontal(v)
			if !d.zero() && d.sector(l) == sector && !yield(v) {
				return
			}
		}
	}
}
