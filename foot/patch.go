package foot

import (
	"slices"

	"fluxmast/api"
)

// CheckPatch returns the error of a patch.
func CheckPatch(p Patch) api.Errno {
	switch {
	case !between(len(p.Corners), 3, api.MaxVertices):
		return api.ErrSize
	case slices.ContainsFunc(p.Corners, func(c api.Point) bool { return !placed(c.X, c.Y, maxPlace) }):
		return api.ErrArg
	case !isConvex(p.Corners) || p.Days.Lo > p.Days.Hi:
		return api.ErrOrder
	}
	return api.OK
}

// Area returns twice the area of a patch.
func Area(p Patch) (int, api.Errno) {
	if e := CheckPatch(p); e != api.OK {
		return 0, e
	}
	area := 0
	for from, to := range sides(p.Corners) {
		area += cross(api.Point{}, from, to)
	}
	return area, api.OK
}

// Split returns both parts of a patch that is cut from a corner to another one.
func Split(p Patch, i, k int) (first, second Patch, e api.Errno) {
	if e := CheckPatch(p); e != api.OK {
		return Patch{}, Patch{}, e
	}
	last := len(p.Corners) - 1
	switch {
	case !between(i, 0, last) || !between(k, 0, last):
		return Patch{}, Patch{}, api.ErrArg
	case k < i+2 || i == 0 && k == last:
		return Patch{}, Patch{}, api.ErrOrder
	}
	first, second = p, p
	first.Corners = slices.Clone(p.Corners[i : k+1])
	second.Corners = slices.Concat(p.Corners[k:], p.Corners[:i+1])
	return first, second, api.OK
}

// isThere reports whether a patch is there on a day.
func (p Patch) isThere(day int) bool {
	return between(day, p.Days.Lo, p.Days.Hi)
}

// isConvex reports whether corners are those of a convex polygon, counterclockwise.
func isConvex(corners []api.Point) bool {
	for i, from := range corners {
		next := (i + 1) % len(corners)
		for k, c := range corners {
			if k != i && k != next && cross(from, corners[next], c) <= 0 {
				return false
			}
		}
	}
	return true
}

// cross returns the cross product of the ways from a point to two others.
func cross(from, a, b api.Point) int {
	return (a.X-from.X)*(b.Y-from.Y) - (a.Y-from.Y)*(b.X-from.X)
}
