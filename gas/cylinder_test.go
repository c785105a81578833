package gas

import (
	"math"
	"math/rand"
	"slices"
	"testing"

	"fluxmast/api"
	"fluxmast/num"
)

// P4.1 and P4.4: cylinders.

func cylinder(parent int, value, wrong string) Cylinder {
	return Cylinder{Parent: parent, Value: frac(value), Error: frac(wrong)}
}

func sameCylinder(a, b Cylinder) bool {
	return a.Parent == b.Parent && a.Value.Same(b.Value) && a.Error.Same(b.Error)
}

// family is cylinders with two roots.
func family() []Cylinder {
	return []Cylinder{
		cylinder(-1, "400", "1"), cylinder(0, "380", "2"), cylinder(0, "420", "3"),
		cylinder(-1, "0", "1/2"), cylinder(2, "411", "1/3"), cylinder(3, "5", "0"), cylinder(4, "1/7", "10"),
	}
}

func TestCylinders(t *testing.T) {
	l := family()
	for i, c := range []struct {
		pedigree, rests []int
		value           string
	}{
		{[]int{0}, []int{0, 1, 2, 4, 6}, "[399,401]"},
		{[]int{1, 0}, []int{1}, "[377,383]"},
		{[]int{2, 0}, []int{2, 4, 6}, "[416,424]"},
		{[]int{3}, []int{3, 5}, "[-1/2,1/2]"},
		{[]int{4, 2, 0}, []int{4, 6}, "[1220/3,1246/3]"},
		{[]int{5, 3}, []int{5}, "[9/2,11/2]"},
		{[]int{6, 4, 2, 0}, []int{6}, "[-298/21,304/21]"},
	} {
		way, e := Pedigree(l, i)
		isCode(t, "Pedigree", e, api.OK)
		isInts(t, "Pedigree", way, c.pedigree)
		rests, e := Rests(l, i)
		isCode(t, "Rests", e, api.OK)
		isInts(t, "Rests", rests, c.rests)
		value, e := Value(l, i)
		isCode(t, "Value", e, api.OK)
		isText(t, "Value", value.Text(), c.value)
	}
}

func TestCylinderErrors(t *testing.T) {
	good := cylinder(-1, "400", "1")
	for _, c := range []struct {
		what string
		l    []Cylinder
		i    int
		want api.Errno
	}{
		{"24 cylinders", slices.Repeat([]Cylinder{good}, 24), 23, api.OK},
		{"no list", nil, 0, api.ErrSize},
		{"an empty list", []Cylinder{}, -1, api.ErrSize},
		{"25 cylinders", slices.Repeat([]Cylinder{good}, 25), 0, api.ErrSize},
		{"25 invalid cylinders", slices.Repeat([]Cylinder{cylinder(7, "-1", "-1")}, 25), 25, api.ErrSize},
		{"zeros", []Cylinder{cylinder(-1, "0", "0")}, 0, api.OK},
		{"a value below 0", []Cylinder{good, cylinder(0, "-1/1000", "1")}, 0, api.ErrArg},
		{"an error below 0", []Cylinder{good, cylinder(0, "1", "-1/1000")}, 0, api.ErrArg},
		{"a parent below -1", []Cylinder{good, cylinder(-2, "1", "1")}, 0, api.ErrOrder},
		{"the least parent", []Cylinder{cylinder(math.MinInt, "1", "1")}, 0, api.ErrOrder},
		{"a first one with a parent", []Cylinder{cylinder(0, "1", "1")}, 0, api.ErrOrder},
		{"one against itself", []Cylinder{good, cylinder(1, "1", "1")}, 0, api.ErrOrder},
		{"one against a later one", []Cylinder{good, cylinder(2, "1", "1"), good}, 0, api.ErrOrder},
		{"the greatest parent", []Cylinder{good, cylinder(math.MaxInt, "1", "1")}, 0, api.ErrOrder},
		{"one against the one ahead", []Cylinder{good, cylinder(0, "1", "1"), cylinder(1, "1", "1")}, 2, api.OK},
		{"a value below 0 and an order", []Cylinder{cylinder(0, "-1", "1")}, 0, api.ErrArg},
		{"an error below 0 and an order", []Cylinder{cylinder(0, "1", "-1")}, 0, api.ErrArg},
		{"an order ahead of a value below 0", []Cylinder{cylinder(0, "1", "1"), cylinder(0, "-1", "1")}, 0, api.ErrOrder},
		{"a value below 0 ahead of an order", []Cylinder{cylinder(-1, "-1", "1"), cylinder(1, "1", "1")}, 0, api.ErrArg},
		{"an order and no index", []Cylinder{cylinder(0, "1", "1")}, 1, api.ErrOrder},
		{"an index below 0", []Cylinder{good}, -1, api.ErrArg},
		{"an index behind the end", []Cylinder{good, good}, 2, api.ErrArg},
		{"the least index", []Cylinder{good}, math.MinInt, api.ErrArg},
		{"the greatest index", []Cylinder{good}, math.MaxInt, api.ErrArg},
	} {
		way, e := Pedigree(c.l, c.i)
		isCode(t, "Pedigree with "+c.what, e, c.want)
		value, e := Value(c.l, c.i)
		isCode(t, "Value with "+c.what, e, c.want)
		rests, e := Rests(c.l, c.i)
		isCode(t, "Rests with "+c.what, e, c.want)
		if c.want != api.OK && (len(way) > 0 || len(rests) > 0 || value.Text() != "[0,0]") {
			t.Errorf("a result with an error: %v, %s, %v", way, value.Text(), rests)
		}
	}
}

func randomCylinders(r *rand.Rand) []Cylinder {
	l := make([]Cylinder, 1+r.Intn(24))
	for i := range l {
		l[i] = Cylinder{Parent: r.Intn(i+1) - 1, Value: randomFrac(r).Abs(), Error: randomFrac(r).Abs()}
		if r.Intn(2) == 0 {
			l[i].Parent = i - 1 // long pedigrees
		}
	}
	return l
}

func TestPedigrees(t *testing.T) {
	r := seeded()
	for range 50 {
		l := randomCylinders(r)
		for i := range l {
			way, e := Pedigree(l, i)
			isCode(t, "Pedigree", e, api.OK)
			if len(way) == 0 || way[0] != i || l[way[len(way)-1]].Parent != -1 {
				t.Fatalf("the pedigree %v of %d in %v", way, i, l)
			}
			wrong := rat(l[i].Error)
			for at, parent := range way[1:] {
				isTrue(t, "the next one is the Parent", l[way[at]].Parent == parent)
				wrong = add(wrong, rat(l[parent].Error))
			}
			value, e := Value(l, i)
			isCode(t, "Value", e, api.OK)
			isRat(t, "Lo of Value", value.Lo(), sub(rat(l[i].Value), wrong))
			isRat(t, "Hi of Value", value.Hi(), add(rat(l[i].Value), wrong))
			for of := range l {
				rests, e := Rests(l, of)
				isCode(t, "Rests", e, api.OK)
				isTrue(t, "Rests are ascending", slices.IsSorted(rests))
				isTrue(t, "Rests has those whose pedigree has it", slices.Contains(rests, i) == slices.Contains(way, of))
			}
		}
	}
}

func TestGreaterErrorWidens(t *testing.T) {
	r := seeded()
	for range 100 {
		l := randomCylinders(r)
		at, more := r.Intn(len(l)), randomAbove(r)
		wider := slices.Clone(l)
		wider[at].Error = wider[at].Error.Add(more)
		rests, _ := Rests(l, at)
		for i := range l {
			before, _ := Value(l, i)
			after, e := Value(wider, i)
			isCode(t, "Value", e, api.OK)
			if slices.Contains(rests, i) {
				before = before.Add(num.Only(more.Neg()).Hull(num.Only(more)))
			}
			isText(t, "Value with a greater Error", after.Text(), before.Text())
		}
	}
}

// P1 and R4.
func TestAnyCylinders(t *testing.T) {
	r := seeded()
	for range 1000 {
		l := randomCylinders(r)
		for range r.Intn(3) {
			l[r.Intn(len(l))].Parent = extreme(r)
		}
		if r.Intn(3) == 0 {
			l[r.Intn(len(l))].Value = randomFrac(r)
		}
		i := r.Intn(len(l))
		if r.Intn(2) == 0 {
			i = extreme(r)
		}
		l, unchanged := behind(t, l, cylinder(-1, "7", "1/7"), sameCylinder)
		way, e := Pedigree(l, i)
		value, f := Value(l, i)
		rests, g := Rests(l, i)
		isTrue(t, "the errors are the same", e == f && f == g)
		isTrue(t, "an error comes alone", e == api.OK || len(way)+len(rests) == 0 && value.Text() == "[0,0]")
		unchanged()
	}
}
