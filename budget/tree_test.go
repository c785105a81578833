package budget_test

import (
	"math/big"
	"math/rand"
	"slices"
	"testing"

	"fluxmast/api"
	"fluxmast/budget"
	"fluxmast/num"
)

// P9.1, P9.6 and P9.7: leaves and trees.

const maxGirth = 1 << 30

// slowGreen divides what the pixels have that have a colour.
func slowGreen(l [][3]uint8) (*big.Rat, bool) {
	total, count := new(big.Rat), 0
	for _, p := range l {
		red, green, blue := int64(p[0]), int64(p[1]), int64(p[2])
		if red != 0 || green != 0 || blue != 0 {
			total = ratAdd(total, big.NewRat(green, red+green+blue))
			count++
		}
	}
	if count == 0 {
		return new(big.Rat), false
	}
	return ratQuo(total, ratOf(count)), true
}

func randomPixels(r *rand.Rand) [][3]uint8 {
	l := make([][3]uint8, r.Intn(65))
	bright := 1 + r.Intn(256)
	for i := range l {
		l[i] = [3]uint8{uint8(r.Intn(bright)), uint8(r.Intn(bright)), uint8(r.Intn(bright))}
		if r.Intn(4) == 0 {
			l[i] = [3]uint8{}
			l[i][r.Intn(3)] = uint8(r.Intn(256))
		}
	}
	return l
}

func TestGreen(t *testing.T) {
	white := [][3]uint8{{255, 255, 255}}
	for _, c := range []struct {
		what string
		l    [][3]uint8
		want string
		code api.Errno
	}{
		{"the example", [][3]uint8{{1, 2, 1}, {0, 1, 3}}, "3/8", api.OK},
		{"a black pixel, too", [][3]uint8{{1, 2, 1}, {}, {0, 1, 3}}, "3/8", api.OK},
		{"the greatest sum", white, "1/3", api.OK},
		{"only green", [][3]uint8{{0, 255, 0}}, "1", api.OK},
		{"no green", [][3]uint8{{255, 0, 0}, {0, 0, 1}}, "0", api.OK},
		{"red counts", [][3]uint8{{1, 0, 0}, {0, 1, 0}}, "1/2", api.OK},
		{"blue counts", [][3]uint8{{0, 0, 1}, {0, 1, 0}}, "1/2", api.OK},
		{"a mean of pixels, not of sums", [][3]uint8{{100, 0, 0}, {0, 1, 0}}, "1/2", api.OK},
		{"64 pixels", slices.Repeat(white, 64), "1/3", api.OK},
		{"65 pixels", slices.Repeat(white, 65), "0", api.ErrSize},
		{"65 black pixels", make([][3]uint8, 65), "0", api.ErrSize},
		{"64 black pixels", make([][3]uint8, 64), "0", api.ErrNone},
		{"one black pixel", make([][3]uint8, 1), "0", api.ErrNone},
		{"no list", nil, "0", api.ErrNone},
		{"an empty list", [][3]uint8{}, "0", api.ErrNone},
		{"a last pixel that is not black", with(make([][3]uint8, 64), 63, [3]uint8{1, 1, 0}), "1/2", api.OK},
	} {
		got, e := budget.Green(c.l)
		isCode(t, "Green of "+c.what, e, c.code)
		isText(t, "Green of "+c.what, got.Text(), c.want)
	}
}

func TestGreenModel(t *testing.T) {
	r := seeded()
	for range 500 {
		l := randomPixels(r)
		want, ok := slowGreen(l)
		got, e := budget.Green(l)
		if !ok {
			isCode(t, "Green of black pixels", e, api.ErrNone)
			continue
		}
		isCode(t, "Green", e, api.OK)
		isRat(t, "Green", got, want)
		isTrue(t, "Green lies from 0 to 1", got.Sign() >= 0 && got.Cmp(num.Int(1)) <= 0)
		other := right[num.Frac](t, "Green")(budget.Green(shuffled(r, l)))
		isText(t, "Green in another order", other.Text(), got.Text())
	}
}

func TestGrown(t *testing.T) {
	many := slices.Repeat([]int{maxGirth, 0}, 32)
	for _, c := range []struct {
		what           string
		girths         []int
		growth, shrank []int
		code           api.Errno
	}{
		{"the example", []int{10, 12, 11}, []int{2, -1}, []int{2}, api.OK},
		{"a year without growth", []int{10, 12, 11, 11}, []int{2, -1, 0}, []int{2}, api.OK},
		{"a tree that always shrinks", []int{9, 5, 4, 0}, []int{-4, -1, -4}, []int{1, 2, 3}, api.OK},
		{"a tree that always grows", []int{0, 1, 5}, []int{1, 4}, nil, api.OK},
		{"one year", []int{7}, nil, nil, api.OK},
		{"two years", []int{7, 6}, []int{-1}, []int{1}, api.OK},
		{"the greatest girth", []int{0, maxGirth, 0}, []int{maxGirth, -maxGirth}, []int{2}, api.OK},
		{"no list", nil, nil, nil, api.ErrSize},
		{"an empty list", []int{}, nil, nil, api.ErrSize},
		{"65 years", append(slices.Clone(many), 1), nil, nil, api.ErrSize},
		{"65 wrong years", slices.Repeat([]int{-1}, 65), nil, nil, api.ErrSize},
		{"one wrong year", []int{-1}, nil, nil, api.ErrArg},
	} {
		growth, shrank, e := budget.Grown(c.girths)
		isCode(t, "Grown of "+c.what, e, c.code)
		isList(t, "the growth of "+c.what, growth, c.growth)
		isList(t, "where it shrank, of "+c.what, shrank, c.shrank)
	}
	growth, shrank, e := budget.Grown(many)
	isTrue(t, "Grown of 64 years", e == api.OK && len(growth) == 63 && len(shrank) == 32)
	for _, n := range outside(0, maxGirth) {
		for i := range 3 {
			growth, shrank, e := budget.Grown(with([]int{10, 12, 11}, i, n))
			isCode(t, "Grown of a wrong girth", e, api.ErrArg)
			isTrue(t, "an error of Grown comes alone", len(growth) == 0 && len(shrank) == 0)
		}
	}
}

func randomGirths(r *rand.Rand) []int {
	girths := randomInts(r, 1+r.Intn(64), 0, maxGirth)
	if r.Intn(2) == 0 {
		slices.Sort(girths)
	}
	return girths
}

func TestGrownModel(t *testing.T) {
	r := seeded()
	for range 500 {
		girths := randomGirths(r)
		growth, shrank, e := budget.Grown(girths)
		isCode(t, "Grown", e, api.OK)
		isInt(t, "the years of growth", len(growth), len(girths)-1)
		isInt(t, "the growths together", sum(growth), girths[len(girths)-1]-girths[0])
		var less []int
		for i, girth := range girths[1:] {
			isInt(t, "Grown", girths[i]+growth[i], girth)
			if girth < girths[i] {
				less = append(less, i+1)
			}
		}
		isList(t, "the years in which it shrank", shrank, less)
		below := slices.ContainsFunc(growth, func(n int) bool { return n < 0 })
		isTrue(t, "no growth is below 0 exactly if no year shrank", below == (len(shrank) > 0))
	}
}

func TestTreesKeepTheirArguments(t *testing.T) {
	pixels, samePixels := behind(t, [][3]uint8{{1, 2, 1}, {}, {0, 1, 3}}, [3]uint8{7, 7, 7}, equal)
	girths, sameGirths := behind(t, []int{10, 12, 11, 9}, 77, equal)
	for range 2 {
		isText(t, "Green", right[num.Frac](t, "Green")(budget.Green(pixels)).Text(), "3/8")
		growth, shrank, e := budget.Grown(girths)
		isCode(t, "Grown", e, api.OK)
		isList(t, "the growth", growth, []int{2, -1, -2})
		scribble(growth, 99)
		isList(t, "where it shrank", shrank, []int{2, 3})
		scribble(shrank, 99)
	}
	samePixels()
	sameGirths()
}

// P1: no call panics, and an error comes alone.
func TestAnyTrees(t *testing.T) {
	r := seeded()
	for range 2000 {
		growth, shrank, e := budget.Grown(extremes(r, r.Intn(4)))
		isTrue(t, "an error of Grown comes alone", e == api.OK || len(growth) == 0 && len(shrank) == 0)
	}
}
