package sonic

import (
	"math"
	"math/big"
	"math/rand"
	"slices"
	"strings"
	"testing"

	"fluxmast/api"
	"fluxmast/num"
)

// P3.1 and P3.2: flight times.

func TestFlightTimes(t *testing.T) {
	for _, c := range []struct {
		p            Path
		along, sound string
	}{
		{Path{150000, 400000, 500000}, "75/2", "675/2"},
		{Path{150000, 500000, 400000}, "-75/2", "675/2"},
		{Path{1, 1, 1}, "0", "1000"},
		{Path{1000000, 1 << 30, 1 << 30}, "0", "1953125/2097152"},
		{Path{1000000, 1, 1 << 30}, "536870911500000000/1073741824", "536870912500000000/1073741824"},
		{Path{3, 7, 11}, "6000/77", "27000/77"},
	} {
		v, e := Along(c.p)
		isCode(t, "Along", e, api.OK)
		w, e := Sound(c.p)
		isCode(t, "Sound", e, api.OK)
		// The wanted texts need not be in lowest terms.
		want, _ := new(big.Rat).SetString(c.along)
		isRat(t, "Along", v, want)
		want, _ = new(big.Rat).SetString(c.sound)
		isRat(t, "Sound", w, want)
	}
}

func TestPathErrors(t *testing.T) {
	good := Path{150000, 400000, 500000}
	limits := []int{maxLength, maxFlight, maxFlight}
	for i, most := range limits {
		for _, c := range []struct {
			n    int
			want api.Errno
		}{
			{1, api.OK}, {most, api.OK}, {0, api.ErrArg}, {-1, api.ErrArg}, {most + 1, api.ErrArg}, {math.MinInt, api.ErrArg}, {math.MaxInt, api.ErrArg}, {-most, api.ErrArg},
		} {
			p := good
			*[]*int{&p.Length, &p.There, &p.Back}[i] = c.n
			v, e := Along(p)
			isCode(t, "Along", e, c.want)
			w, f := Sound(p)
			isCode(t, "Sound", f, c.want)
			if e != api.OK && !v.Zero() || f != api.OK && !w.Zero() {
				t.Errorf("%v: a number with an error", p)
			}
		}
	}
	if maxLength != 1000000 || maxFlight != 1<<30 {
		t.Error("the limits of a path")
	}
}

func TestFlightModel(t *testing.T) {
	r := seeded()
	for range 500 {
		p := Path{1 + r.Intn(maxLength), 1 + r.Intn(maxFlight), 1 + r.Intn(maxFlight)}
		there := big.NewRat(500*int64(p.Length), int64(p.There))
		back := big.NewRat(500*int64(p.Length), int64(p.Back))
		v, _ := Along(p)
		isRat(t, "Along", v, sub(there, back))
		w, _ := Sound(p)
		isRat(t, "Sound", w, add(there, back))
	}
}

func TestFlightThroughAir(t *testing.T) {
	r := seeded()
	for range 500 {
		// Speeds in units of 1/d metres per second.
		c := 2 + r.Intn(400)
		v := r.Intn(2*c-1) - (c - 1)
		d, times := 1+r.Intn(9), 1+r.Intn(3)
		p := Path{(c + v) * (c - v) * times, 1000 * d * (c - v) * times, 1000 * d * (c + v) * times}
		along, e := Along(p)
		isCode(t, "Along", e, api.OK)
		isRat(t, "Along", along, big.NewRat(int64(v), int64(d)))
		sound, e := Sound(p)
		isCode(t, "Sound", e, api.OK)
		isRat(t, "Sound", sound, big.NewRat(int64(c), int64(d)))

		exchanged := Path{p.Length, p.Back, p.There}
		opposite, _ := Along(exchanged)
		isText(t, "Along, exchanged", opposite.Neg().Text(), along.Text())
		same, _ := Sound(exchanged)
		isText(t, "Sound, exchanged", same.Text(), sound.Text())
	}
}

func TestTemperature(t *testing.T) {
	for _, c := range []struct {
		sound, across, want string
		code                api.Errno
	}{
		{"310", "0", "3100/13", api.OK},
		{"340", "9", "8893/31", api.OK},
		{"1/2", "1/3", "7/4836", api.OK},
		{"1/1000000000000000000000", "0", "1/403000000000000000000000000000000000000000000", api.OK},
		{"0", "0", "0", api.ErrArg},
		{"0", "5", "0", api.ErrArg},
		{"-310", "0", "0", api.ErrArg},
		{"310", "-1/1000", "0", api.ErrArg},
	} {
		got, e := Temperature(frac(c.sound), frac(c.across))
		isCode(t, "Temperature", e, c.code)
		isText(t, "Temperature of "+c.sound+" and "+c.across, got.Text(), c.want)
	}
}

// P3.1 and P3.3: three paths.

func TestParts(t *testing.T) {
	for _, c := range []struct {
		paths Mat
		wind  string
		want  string
	}{
		{mat("1 0 0", "0 1 0", "0 0 1"), "1 2 3", "1 2 3"},
		{mat("1 2 3", "4 5 6", "7 8 9"), "1 -1 1/2", "1/2 2 7/2"},
		{Mat{}, "1 2 3", "0 0 0"},
		{mat("1 1 1", "1 1 1", "1 1 1"), "1/2 1/3 1/6", "1 1 1"},
	} {
		isText(t, "Parts", text(Parts(c.paths, vec(c.wind))), c.want)
	}
}

func TestWind(t *testing.T) {
	for _, c := range []struct {
		paths       Mat
		along, want string
		code        api.Errno
	}{
		{mat("1 0 0", "0 1 0", "0 0 1"), "1 2 3", "1 2 3", api.OK},
		{mat("0 1 0", "0 0 1", "1 0 0"), "1 2 3", "3 1 2", api.OK},
		{mat("0 1 0", "1 0 0", "0 0 1"), "1 2 3", "2 1 3", api.OK},
		{mat("2 0 0", "0 3 0", "0 0 -7"), "1 1 1", "1/2 1/3 -1/7", api.OK},
		{mat("1/2 0 1/3", "0 1 1/5", "1 1 1"), "0 0 0", "0 0 0", api.OK},
		// The determinant is -3.
		{mat("1 2 3", "4 5 6", "7 8 10"), "1 0 0", "-2/3 -2/3 1", api.OK},
		{mat("1 2 3", "4 5 6", "7 8 9"), "1 2 3", noVec, api.ErrSingular},
		{mat("1 2 3", "4 5 6", "7 8 9"), "0 0 0", noVec, api.ErrSingular},
		{mat("1 2 3", "2 4 6", "7 8 1"), "1 2 3", noVec, api.ErrSingular},
		{mat("1 0 0", "0 0 0", "0 0 1"), "1 0 3", noVec, api.ErrSingular},
		{mat("1 1 0", "2 3 0", "5 1 0"), "1 0 3", noVec, api.ErrSingular},
		{Mat{}, "0 0 0", noVec, api.ErrSingular},
	} {
		got, e := Wind(c.paths, vec(c.along))
		isCode(t, "Wind", e, c.code)
		isText(t, "Wind of "+matText(c.paths)+" and "+c.along, text(got), c.want)
	}
}

func TestWindOfParts(t *testing.T) {
	r := seeded()
	regular := 0
	for range 300 {
		paths, wind := randomMat(r), randomVec(r)
		got, e := Wind(paths, Parts(paths, wind))
		// For a vector, the determinant is the volume that the rows have.
		if volume(paths).Sign() == 0 {
			isCode(t, "Wind", e, api.ErrSingular)
			continue
		}
		regular++
		isCode(t, "Wind", e, api.OK)
		isText(t, "Wind of Parts", text(got), text(wind))
		back, e := Wind(paths, wind)
		isCode(t, "Wind", e, api.OK)
		isText(t, "Parts of Wind", text(Parts(paths, back)), text(wind))
	}
	if regular < 100 {
		t.Error("too few regular paths:", regular)
	}
}

// volume is the determinant, by all permutations.
func volume(m Mat) *big.Rat {
	sum := new(big.Rat)
	for _, p := range [][4]int{{0, 1, 2, 1}, {1, 2, 0, 1}, {2, 0, 1, 1}, {0, 2, 1, -1}, {2, 1, 0, -1}, {1, 0, 2, -1}} {
		term := mul(mul(rat(m[0][p[0]]), rat(m[1][p[1]])), rat(m[2][p[2]]))
		sum = add(sum, mul(term, big.NewRat(int64(p[3]), 1)))
	}
	return sum
}

func TestSingularPaths(t *testing.T) {
	r := seeded()
	for range 200 {
		m := randomMat(r)
		row, f, g := r.Intn(3), randomFrac(r), randomFrac(r)
		one, other := m[(row+1)%3], m[(row+2)%3]
		for i := range 3 {
			m[row][i] = one[i].Mul(f).Add(other[i].Mul(g))
		}
		if r.Intn(2) == 0 {
			m = m.exchanged()
		}
		got, e := Wind(m, randomVec(r))
		isCode(t, "Wind", e, api.ErrSingular)
		isText(t, "Wind", text(got), noVec)
	}
}

func TestAcross(t *testing.T) {
	for _, c := range []struct {
		paths      Mat
		wind, want string
		code       api.Errno
	}{
		{mat("1 0 0", "0 1 0", "0 0 1"), "1 2 3", "13 10 5", api.OK},
		{mat("1 1 0", "0 1 1", "1 0 1"), "1 2 3", "19/2 3/2 6", api.OK},
		{mat("-5 0 0", "0 1/9 0", "1 2 3"), "1 2 3", "13 10 0", api.OK},
		{mat("1 0 0", "1 0 0", "1 0 0"), "0 0 0", "0 0 0", api.OK}, // paths that tell no wind have their winds across
		{mat("0 0 0", "0 1 0", "0 0 1"), "1 2 3", noVec, api.ErrZero},
		{mat("1 0 0", "0 1 0", "0 0 0"), "1 2 3", noVec, api.ErrZero},
		{mat("1 0 0", "0 0 0", "0 0 1"), "0 0 0", noVec, api.ErrZero},
	} {
		got, e := Across(c.paths, vec(c.wind))
		isCode(t, "Across", e, c.code)
		isText(t, "Across of "+matText(c.paths)+" and "+c.wind, text(got), c.want)
	}
}

// cross is the vector at right angles to two others, as long as the area between them.
func cross(v, w Vec) Vec {
	var c Vec
	for i := range c {
		k, l := (i+1)%3, (i+2)%3
		c[i] = v[k].Mul(w[l]).Sub(v[l].Mul(w[k]))
	}
	return c
}

func TestAcrossModel(t *testing.T) {
	r := seeded()
	for range 200 {
		paths, wind := randomMat(r), randomVec(r)
		for i, row := range paths {
			if sameVec(row, Vec{}) {
				paths[i][r.Intn(3)] = num.Int(1)
			}
		}
		got, e := Across(paths, wind)
		isCode(t, "Across", e, api.OK)
		for i, row := range paths {
			area := cross(row, wind)
			isRat(t, "Across", got[i], quo(product(area, area), product(row, row)))
			if got[i].Sign() < 0 {
				t.Errorf("Across: %s is below 0", got[i].Text())
			}
		}
		scale, along := randomFrac(r), r.Intn(3)
		got, e = Across(paths, times(paths[along], scale))
		isCode(t, "Across", e, api.OK)
		isText(t, "Across of a wind along a path", got[along].Text(), "0")
	}
}

func times(v Vec, x num.Frac) Vec {
	return Vec{v[0].Mul(x), v[1].Mul(x), v[2].Mul(x)}
}

// shades is the table with the text of pairs.
func shades(text string) []Shade {
	var l []Shade
	words := strings.Fields(text)
	for i := 0; i < len(words); i += 2 {
		l = append(l, Shade{frac(words[i]), frac(words[i+1])})
	}
	return l
}

func TestShadow(t *testing.T) {
	axes, slant := mat("1 0 0", "0 1 0", "0 0 1"), mat("1 1 0", "0 1 1", "1 0 1")
	for _, c := range []struct {
		table       string
		paths       Mat
		along, want string
	}{
		{"0 1/2 1/2 1", axes, "3 0 1", "3 0 2"},
		{"0 1/2 1/2 1", axes, "0 0 0", "0 0 0"},
		{"0 1/2", slant, "0 0 0", "0 0 0"},
		{"0 1/2", axes, "-3 0 1/7", "-6 0 2/7"},
		{"0 1", axes, "-3 0 1/7", "-3 0 1/7"},
		// A square of a cosine that is that of an entry belongs to it.
		{"0 1/2 1/10 1/3 9/10 1/5", axes, "3 0 1", "15 0 3"},
		{"0 1/2 11/100 1/3 91/100 1/5", axes, "3 0 1", "9 0 2"},
		{"0 1/2 1 1/4", axes, "0 -5 0", "0 -20 0"},
		{"0 1/2 2 1/4", axes, "0 -5 0", "0 -10 0"},
		// The wind 1, 2, 3 has the square 14, the rows 2: 9/28, 25/28 and 16/28.
		{"0 1/2 9/28 1/3 4/7 1/5 25/28 1/7", slant, "3 5 4", "9 35 20"},
		{"0 1/2 10/31 1/3 5/8 1/5 9/10 1/7", slant, "3 5 4", "6 25 12"},
		// A path that is three times as long hears three times as much, at the same angle.
		{"0 1/2 1/2 1", mat("3 0 0", "0 1 0", "0 0 1/9"), "9 0 1/9", "9 0 2/9"},
	} {
		got, e := Shadow(shades(c.table), c.paths, vec(c.along))
		isCode(t, "Shadow", e, api.OK)
		isText(t, "Shadow of "+c.table+" and "+c.along, text(got), c.want)
	}
}

func TestShadowErrors(t *testing.T) {
	full := Shade{num.Frac{}, num.Int(1)}
	rising := func(count int) []Shade {
		var l []Shade
		for i := range count {
			l = append(l, Shade{num.Int(int64(i)), num.Int(1)})
		}
		return l
	}
	axes := mat("1 0 0", "0 1 0", "0 0 1")
	for _, c := range []struct {
		what  string
		table []Shade
		want  api.Errno
	}{
		{"one entry", rising(1), api.OK},
		{"16 entries", rising(16), api.OK},
		{"no table", nil, api.ErrSize},
		{"an empty table", []Shade{}, api.ErrSize},
		{"17 entries", rising(17), api.ErrSize},
		{"17 empty entries", make([]Shade, 17), api.ErrSize},
		{"a first From above 0", shades("1/9 1"), api.ErrArg},
		{"a first From below 0", shades("-1/9 1"), api.ErrArg},
		{"a second From below 0", shades("0 1 -1 1"), api.ErrOrder},
		{"an equal From", []Shade{full, full}, api.ErrOrder},
		{"a lesser From", shades("0 1 1/2 1 1/3 1"), api.ErrOrder},
		{"a From above 1", shades("0 1 7 1/2"), api.OK},
		{"a Factor of 0", shades("0 0"), api.ErrArg},
		{"a Factor below 0", shades("0 -1"), api.ErrArg},
		{"a Factor above 1", shades("0 3/2"), api.ErrArg},
		{"a Factor of 1", shades("0 1"), api.OK},
		{"a second Factor above 1", shades("0 1 1/2 3/2"), api.ErrArg},
		{"a lesser From with a Factor of 0", shades("0 1 0 0"), api.ErrOrder},
		{"a Factor of 0 ahead of a lesser From", shades("0 0 0 1"), api.ErrArg},
		{"a lesser From ahead of a Factor of 0", shades("0 1 0 1 1/2 0"), api.ErrOrder},
	} {
		got, e := Shadow(c.table, axes, vec("0 0 0"))
		isCode(t, "Shadow with "+c.what, e, c.want)
		isText(t, "Shadow with "+c.what, text(got), noVec)
		got, e = Shadow(c.table, axes, vec("3 0 -1"))
		isCode(t, "Shadow with "+c.what, e, c.want)
		if c.want != api.OK {
			isText(t, "Shadow with "+c.what, text(got), noVec)
		}
		want := c.want
		if want == api.OK {
			want = api.ErrSingular
		}
		got, e = Shadow(c.table, mat("1 2 3", "4 5 6", "7 8 9"), vec("3 0 1"))
		isCode(t, "Shadow with "+c.what+" of singular paths", e, want)
		isText(t, "Shadow with "+c.what+" of singular paths", text(got), noVec)
	}
}

func randomShades(r *rand.Rand) []Shade {
	l := make([]Shade, 1+r.Intn(16))
	from := num.Frac{}
	for i := range l {
		l[i] = Shade{from, ratio(1+r.Int63n(9), 9)}
		from = from.Add(ratio(1+r.Int63n(20), 100))
	}
	return l
}

// slowShadow is a part divided by the factor of the square of its cosine.
func slowShadow(table []Shade, row, wind Vec, part num.Frac) *big.Rat {
	p := rat(part)
	c := quo(mul(p, p), mul(product(row, row), product(wind, wind)))
	for i := len(table) - 1; ; i-- {
		if rat(table[i].From).Cmp(c) <= 0 {
			return quo(p, rat(table[i].Factor))
		}
	}
}

func TestShadowModel(t *testing.T) {
	r := seeded()
	for range 300 {
		table, paths, along := randomShades(r), randomMat(r), randomVec(r)
		wind, e := Wind(paths, along)
		got, f := Shadow(table, paths, along)
		isCode(t, "Shadow", f, e)
		if e != api.OK || sameVec(wind, Vec{}) {
			continue
		}
		for i, part := range along {
			isRat(t, "Shadow", got[i], slowShadow(table, paths[i], wind, part))
			if got[i].Sign() != part.Sign() || got[i].Abs().Cmp(part.Abs()) < 0 {
				t.Errorf("Shadow of %s: %s", part.Text(), got[i].Text())
			}
		}
	}
}

func TestShadesStay(t *testing.T) {
	table, same := behind(t, shades("0 1/2 1/2 1"), Shade{num.Int(7), num.Int(7)}, sameShade)
	_, _ = Shadow(table, mat("1 0 0", "0 1 0", "0 0 1"), vec("3 0 1"))
	_, _ = Shadow(slices.Clone(table[:1]), Mat{}, vec("3 0 1"))
	same()
}

func TestExtremePaths(t *testing.T) {
	r := seeded()
	for range 2000 {
		p := Path{extreme(r), extreme(r), extreme(r)}
		good := 1 <= p.Length && p.Length <= 1000000 && 1 <= p.There && p.There <= 1<<30 && 1 <= p.Back && p.Back <= 1<<30
		want := api.ErrArg
		if good {
			want = api.OK
		}
		_, e := Along(p)
		isCode(t, "Along", e, want)
		_, e = Sound(p)
		isCode(t, "Sound", e, want)
	}
}
