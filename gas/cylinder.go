package gas

import (
	"iter"
	"slices"

	"fluxmast/api"
	"fluxmast/num"
)

// Cylinder is a bottle of gas: the cylinder that it was measured against (-1: none), its value, and by how much this may be wrong against that cylinder's.
type Cylinder struct {
	Parent       int
	Value, Error num.Frac
}

// noParent is the Parent of a cylinder that was measured against nothing.
const noParent = -1

// Pedigree returns a cylinder and all that it rests on.
func Pedigree(l []Cylinder, i int) ([]int, api.Errno) {
	if e := checkCylinder(l, i); e != api.OK {
		return nil, e
	}
	return slices.Collect(pedigree(l, i)), api.OK
}

// Value returns what a cylinder contains.
func Value(l []Cylinder, i int) (num.Band, api.Errno) {
	if e := checkCylinder(l, i); e != api.OK {
		return num.Band{}, e
	}
	var wrong num.Frac
	for at := range pedigree(l, i) {
		wrong = wrong.Add(l[at].Error)
	}
	return num.Make(l[i].Value.Sub(wrong), l[i].Value.Add(wrong))
}

// Rests returns a cylinder and all that rest on it.
func Rests(l []Cylinder, i int) ([]int, api.Errno) {
	if e := checkCylinder(l, i); e != api.OK {
		return nil, e
	}
	var resting []int
	for at := range l {
		for ancestor := range pedigree(l, at) {
			if ancestor == i {
				resting = append(resting, at)
				break
			}
		}
	}
	return resting, api.OK
}

// checkCylinder returns the error of cylinders, and of the index of one.
func checkCylinder(l []Cylinder, i int) api.Errno {
	if !between(len(l), 1, api.MaxCylinders) {
		return api.ErrSize
	}
	for at, c := range l {
		switch {
		case anyBelow(c.Value, c.Error):
			return api.ErrArg
		case !between(c.Parent, noParent, at-1):
			return api.ErrOrder
		}
	}
	if !between(i, 0, len(l)-1) {
		return api.ErrArg
	}
	return api.OK
}

// pedigree walks the indices of a cylinder and of all that it rests on. It ends, as each Parent is less than its child.
func pedigree(l []Cylinder, i int) iter.Seq[int] {
	return func(yield func(int) bool) {
		for at := i; at != noParent; at = l[at].Parent {
			if !yield(at) {
				return
			}
		}
	}
}
