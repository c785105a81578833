package foot

import (
	"fluxmast/api"
	"fluxmast/num"
)

// spot is a point of the plane, from the corner of a cell on.
type spot struct{ x, y num.Frac }

// Cover returns which part of a cell lies in a patch.
func Cover(p Patch, x, y int) (num.Frac, api.Errno) {
	e := CheckPatch(p)
	switch {
	case e != api.OK:
		return num.Frac{}, e
	case !placed(x, y, maxPlace):
		return num.Frac{}, api.ErrArg
	}
	return p.cover(x, y), api.OK
}

// Share returns how much of the weight of cells comes from a patch.
func Share(l []Cell, p Patch) (num.Frac, api.Errno) {
	if e := cellsError(l); e != api.OK {
		return num.Frac{}, e
	}
	if e := CheckPatch(p); e != api.OK {
		return num.Frac{}, e
	}
	return p.share(l), api.OK
}

// Shares returns how much of the weight of cells comes from each patch on a day.
func Shares(l []Cell, patches []Patch, day int) ([]num.Frac, api.Errno) {
	if e := cellsError(l); e != api.OK {
		return nil, e
	}
	if e := patchesError(patches); e != api.OK {
		return nil, e
	}
	shares := make([]num.Frac, len(patches))
	for i, p := range patches {
		if p.isThere(day) {
			shares[i] = p.share(l)
		}
	}
	return shares, api.OK
}

// Owner returns the patch that has the most of a cell on a day.
func Owner(patches []Patch, day, x, y int) (int, api.Errno) {
	e := patchesError(patches)
	switch {
	case e != api.OK:
		return 0, e
	case !placed(x, y, maxPlace):
		return 0, api.ErrArg
	}
	owner, most := 0, num.Frac{}
search:
	for i, p := range patches {
		if !p.isThere(day) {
			continue
		}
		switch cover := p.cover(x, y); {
		case cover.Same(num.Int(1)): // no later one has more
			owner, most = i, cover
			break search
		case cover.Cmp(most) > 0:
			owner, most = i, cover
		}
	}
	if most.Zero() {
		return 0, api.ErrOutside
	}
	return owner, api.OK
}

// patchesError returns the error of a list of patches.
func patchesError(l []Patch) api.Errno {
	if len(l) > api.MaxPatches {
		return api.ErrSize
	}
	for _, p := range l {
		if e := CheckPatch(p); e != api.OK {
			return e
		}
	}
	return api.OK
}

// share returns the sum of the weights of cells, each multiplied by which part of the cell lies in the patch.
func (p Patch) share(l []Cell) num.Frac {
	var sum num.Frac
	for _, c := range l {
		if c.Weight > 0 {
			sum = sum.Add(whole(c.Weight).Mul(p.cover(c.X, c.Y)))
		}
	}
	return sum
}

// cover returns which part of a cell lies in the patch.
func (p Patch) cover(x, y int) num.Frac {
	one := num.Int(1)
	// How far a spot is on the inner side of each edge of the cell.
	edges := [...]func(spot) num.Frac{
		func(s spot) num.Frac { return s.x },
		func(s spot) num.Frac { return s.y },
		func(s spot) num.Frac { return one.Sub(s.x) },
		func(s spot) num.Frac { return one.Sub(s.y) },
	}
	corners := make([]spot, len(p.Corners))
	for i, c := range p.Corners {
		corners[i] = spot{whole(c.X - x), whole(c.Y - y)}
	}
	for _, inside := range edges {
		corners = clipped(corners, inside)
	}
	return area(corners)
}

// clipped returns the corners of what a convex polygon has on the inner side of an edge.
func clipped(corners []spot, inside func(spot) num.Frac) []spot {
	var kept []spot
	for from, to := range sides(corners) {
		begin, end := inside(from), inside(to)
		if begin.Sign() >= 0 {
			kept = append(kept, from)
		}
		if begin.Sign()*end.Sign() < 0 {
			part, _ := begin.Div(begin.Sub(end)) // one of both is above 0, the other one below
			kept = append(kept, from.toward(to, part))
		}
	}
	return kept
}

// toward returns the spot that is a part of the way to another one away.
func (s spot) toward(to spot, part num.Frac) spot {
	return spot{s.x.Add(to.x.Sub(s.x).Mul(part)), s.y.Add(to.y.Sub(s.y).Mul(part))}
}

// area returns the area of a polygon.
func area(corners []spot) num.Frac {
	var twice num.Frac
	for from, to := range sides(corners) {
		twice = twice.Add(from.x.Mul(to.y)).Sub(from.y.Mul(to.x))
	}
	half, _ := num.New(1, 2)
	return twice.Mul(half)
}
