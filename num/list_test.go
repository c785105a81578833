package num

import (
	"math/rand"
	"slices"
	"testing"

	"fluxmast/api"
)

// P1.1: the calls for lists.

func TestSum(t *testing.T) {
	isSum := func(l []Frac, want string, code api.Errno) {
		t.Helper()
		s, e := Sum(l)
		isCode(t, "Sum", e, code)
		isText(t, "Sum", s.Text(), want)
	}
	isSum(nil, "0", api.OK)
	isSum([]Frac{}, "0", api.OK)
	isSum([]Frac{frac(t, "1/3")}, "1/3", api.OK)
	isSum([]Frac{Int(1), frac(t, "1/3"), frac(t, "-5/6")}, "1/2", api.OK)
	ones := make([]Frac, 1025)
	for i := range ones {
		ones[i] = Int(1)
	}
	isSum(ones[:1024], "1024", api.OK)
	isSum(ones, "0", api.ErrSize)
}

func TestDot(t *testing.T) {
	isDot := func(a, b []Frac, want string, code api.Errno) {
		t.Helper()
		s, e := Dot(a, b)
		isCode(t, "Dot", e, code)
		isText(t, "Dot", s.Text(), want)
	}
	isDot(nil, []Frac{}, "0", api.OK)
	a := []Frac{Int(1), Int(2), frac(t, "1/2")}
	isDot(a, a, "21/4", api.OK)
	isDot(a, []Frac{Int(-2), Int(1), frac(t, "1/3")}, "1/6", api.OK)
	isDot(a, a[:2], "0", api.ErrSize)
	isDot(nil, a, "0", api.ErrSize)
	ones := make([]Frac, 1025)
	for i := range ones {
		ones[i] = Int(1)
	}
	isDot(ones[:1024], ones[:1024], "1024", api.OK)
	isDot(ones, ones, "0", api.ErrSize)
}

// table is rows of whole numbers.
func table(rows ...[]int64) [][]Frac {
	l := make([][]Frac, len(rows))
	for i, row := range rows {
		for _, n := range row {
			l[i] = append(l[i], Int(n))
		}
	}
	return l
}

func TestFit(t *testing.T) {
	for _, c := range []struct {
		rows   [][]Frac
		values []int64
		want   []string
		left   string
	}{
		{table([]int64{1, 0}, []int64{1, 1}, []int64{1, 2}), []int64{0, 1, 1}, []string{"1/6", "1/2"}, "1/6"},
		{table([]int64{2}), []int64{3}, []string{"3/2"}, "0"},
		{table([]int64{-2}, []int64{1}), []int64{1, 1}, []string{"-1/5"}, "9/5"},
		{table([]int64{0, 1}, []int64{1, 0}), []int64{3, 4}, []string{"4", "3"}, "0"},
		{table([]int64{1, 1}, []int64{1, 1}, []int64{0, 1}), []int64{1, 3, 5}, []string{"-3", "5"}, "2"},
		{table([]int64{1, 2}, []int64{3, 4}), []int64{0, 0}, []string{"0", "0"}, "0"},
	} {
		values := table(c.values)[0]
		got, left, e := Fit(c.rows, values)
		isCode(t, "Fit", e, api.OK)
		isText(t, "left by Fit", left.Text(), c.left)
		for i, x := range got {
			isText(t, "coefficient", x.Text(), c.want[i])
		}
		if len(got) != len(c.want) {
			t.Errorf("%d coefficients", len(got))
		}
	}
}

func TestFitErrors(t *testing.T) {
	ones := func(rows, n int) [][]Frac {
		l := make([][]Frac, rows)
		for i := range l {
			l[i] = slices.Repeat([]Frac{Int(1)}, n)
		}
		return l
	}
	for _, c := range []struct {
		what   string
		rows   [][]Frac
		values int
		want   api.Errno
	}{
		{"no rows", nil, 0, api.ErrSize}, {"no rows, a value", nil, 1, api.ErrSize}, {"65 rows", ones(65, 1), 65, api.ErrSize}, {"64 rows", ones(64, 1), 64, api.OK},
		{"too few values", ones(3, 1), 2, api.ErrSize}, {"too many values", ones(3, 1), 4, api.ErrSize}, {"no values", ones(3, 1), 0, api.ErrSize},
		{"empty rows", ones(3, 0), 3, api.ErrSize}, {"7 elements", ones(9, 7), 9, api.ErrSize}, {"6 equal columns", ones(9, 6), 9, api.ErrSingular},
		{"a shorter row", append(ones(2, 2), ones(1, 1)...), 3, api.ErrSize}, {"a longer row", append(ones(2, 2), ones(1, 3)...), 3, api.ErrSize},
		{"a nil row", append(ones(2, 2), nil), 3, api.ErrSize}, {"more columns than rows", table([]int64{1, 2}), 1, api.ErrSingular},
		{"a column of 0", table([]int64{1, 0}, []int64{2, 0}), 2, api.ErrSingular}, {"only 0", table([]int64{0}), 1, api.ErrSingular},
		{"a column that two others tell", table([]int64{1, 2, 3}, []int64{4, 5, 9}, []int64{7, 8, 15}, []int64{1, 0, 1}), 4, api.ErrSingular},
	} {
		got, left, e := Fit(c.rows, make([]Frac, c.values))
		isCode(t, c.what, e, c.want)
		if e != api.OK && (len(got) > 0 || !left.Zero()) {
			t.Errorf("%s: results with an error", c.what)
		}
	}
}

func randomTable(r *rand.Rand, rows, n int) ([][]Frac, []Frac) {
	l, values := make([][]Frac, rows), make([]Frac, rows)
	for i := range l {
		for range n {
			l[i] = append(l[i], randomFrac(r))
		}
		values[i] = randomFrac(r)
	}
	return l, values
}

// rest is the values less the fitted ones.
func rest(rows [][]Frac, values, coefficients []Frac) []Frac {
	l := make([]Frac, len(rows))
	for i, row := range rows {
		l[i] = values[i].Sub(dot(row, coefficients))
	}
	return l
}

// P1.7

func TestFitIsBest(t *testing.T) {
	r := seeded()
	for range 60 {
		n := 1 + r.Intn(6)
		rows, values := randomTable(r, n+r.Intn(8), n)
		got, left, e := Fit(rows, values)
		if e == api.ErrSingular {
			continue
		}
		isCode(t, "Fit", e, api.OK)
		errors := rest(rows, values, got)
		for _, column := range transpose(rows) {
			if !dot(errors, column).Zero() {
				t.Fatal("the rest is not orthogonal to a column")
			}
		}
		if !dot(errors, errors).Same(left) {
			t.Fatal("the sum of squares is not that of the rest")
		}
		for range 4 {
			other := slices.Clone(got)
			other[r.Intn(n)] = other[r.Intn(n)].Add(ratio(r.Intn(2) == 0, limbs{1}, power(r.Intn(90))))
			errors := rest(rows, values, other)
			if dot(errors, errors).Cmp(left) < 0 {
				t.Fatal("other coefficients leave less")
			}
		}
		for i := range rows {
			k := r.Intn(len(rows))
			rows[i], rows[k], values[i], values[k] = rows[k], rows[i], values[k], values[i]
		}
		again, left2, e := Fit(rows, values)
		if e != api.OK || !left2.Same(left) || !slices.EqualFunc(got, again, Frac.Same) {
			t.Fatal("the order of the rows matters")
		}
	}
}

// A fit that no coefficients leave anything of has those that made the values.
func TestFitFindsCoefficients(t *testing.T) {
	r := seeded()
	for range 40 {
		n := 1 + r.Intn(6)
		rows, made := randomTable(r, n+r.Intn(9), n)
		made = made[:n]
		values := make([]Frac, len(rows))
		for i, row := range rows {
			values[i] = dot(row, made)
		}
		got, left, e := Fit(rows, values)
		if e == api.OK && (!left.Zero() || !slices.EqualFunc(got, made, Frac.Same)) {
			t.Fatal("Fit does not find the coefficients")
		}
	}
}

func TestLargestFit(t *testing.T) {
	r := seeded()
	rows, values := randomTable(r, 64, 6)
	got, left, e := Fit(rows, values)
	errors := rest(rows, values, got)
	if e != api.OK || left.Sign() <= 0 || !dot(errors, errors).Same(left) {
		t.Errorf("error %d", e)
	}
}

// R4: arguments stay as they are, and what is done to them later does not change a result.
func TestFitKeepsArguments(t *testing.T) {
	rows, values := table([]int64{1, 0}, []int64{1, 1}, []int64{1, 2}), table([]int64{0, 1, 1})[0]
	got, _, _ := Fit(rows, values)
	again, _, e := Fit(rows, values)
	if e != api.OK || !slices.EqualFunc(got, again, Frac.Same) {
		t.Error("Fit changes its arguments")
	}
	for i := range rows {
		rows[i][0], values[i] = Int(99), Int(99)
	}
	isText(t, "coefficient", got[0].Text()+" "+got[1].Text(), "1/6 1/2")
	backed := append(make([][]Frac, 0, 9), table([]int64{1}, []int64{2})...)
	backed[:3][2] = []Frac{Int(5)}
	Fit(backed, make([]Frac, 2, 9))
	if len(backed[:3][2]) != 1 || !backed[:3][2][0].Same(Int(5)) {
		t.Error("Fit writes behind a list's end")
	}
}
