package num

import "fluxmast/api"

// maxTerms is the greatest number of coefficients of a fit.
const maxTerms = 6

// Fit returns the coefficients that fit best, and the sum of squares that they leave.
func Fit(rows [][]Frac, values []Frac) ([]Frac, Frac, api.Errno) {
	if !fitting(rows, values) {
		return nil, Frac{}, api.ErrSize
	}
	n := len(rows[0])
	columns := append(transpose(rows), values)
	scales := make([]Frac, n+1)
	for i := range columns {
		scales[i], columns[i] = whole(columns[i])
	}
	products := grams(columns)
	if !eliminate(products, n) {
		return nil, Frac{}, api.ErrSingular
	}
	// What remains at the corner, over the pivot ahead of it, is the part of the values that no column tells.
	left := products[n][n].over(products[n-1][n-1]).over(scales[n]).over(scales[n])
	coefficients := solve(products, n)
	for i := range coefficients {
		coefficients[i] = coefficients[i].Mul(scales[i]).over(scales[n])
	}
	return coefficients, left, api.OK
}

// fitting reports whether rows and values have the sizes of a fit.
func fitting(rows [][]Frac, values []Frac) bool {
	if len(rows) < 1 || len(rows) > api.MaxFit || len(values) != len(rows) {
		return false
	}
	for _, row := range rows {
		if len(row) < 1 || len(row) > maxTerms || len(row) != len(rows[0]) {
			return false
		}
	}
	return true
}

func transpose(rows [][]Frac) [][]Frac {
	columns := make([][]Frac, len(rows[0]))
	for _, row := range rows {
		for i, x := range row {
			columns[i] = append(columns[i], x)
		}
	}
	return columns
}

// whole returns the least whole number above 0 by which all elements of l become whole ones, and these. (Fractions with
// unlike denominators would grow with each step of the elimination.)
func whole(l []Frac) (Frac, []Frac) {
	scale := limbs{1}
	for _, x := range l {
		scale = scale.mul(x.under().over(scale.common(x.under())))
	}
	factor := build(false, scale, limbs{1})
	scaled := make([]Frac, len(l))
	for i, x := range l {
		scaled[i] = x.Mul(factor)
	}
	return factor, scaled
}

// grams returns the products of all pairs of columns.
func grams(columns [][]Frac) [][]Frac {
	products := make([][]Frac, len(columns))
	for i, a := range columns {
		for _, b := range columns {
			products[i] = append(products[i], dot(a, b))
		}
	}
	return products
}

// eliminate makes the first n columns of the whole numbers m zero below the diagonal, without leaving the whole numbers
// (Bareiss): each element stays a minor, which the pivot before the last one divides. It reports whether each pivot is
// above 0. (It is 0 just if a column depends on those ahead, since m has the products of columns.)
func eliminate(m [][]Frac, n int) bool {
	divisor := Int(1)
	for i := range n {
		pivot := m[i][i]
		if pivot.Zero() {
			return false
		}
		for _, row := range m[i+1:] {
			factor := row[i]
			for c := i; c < len(row); c++ {
				row[c] = pivot.Mul(row[c]).Sub(factor.Mul(m[i][c])).exact(divisor)
			}
		}
		divisor = pivot
	}
	return true
}

// exact returns x/y, for whole numbers of which y divides x.
func (x Frac) exact(y Frac) Frac {
	return build(x.negative != y.negative, x.top.over(y.top), nil)
}

// solve returns the coefficients for which the first n rows of m, eliminated, have the values in their column n.
func solve(m [][]Frac, n int) []Frac {
	// Times the last pivot, which is the determinant, each coefficient is a whole number (Cramer).
	determinant := m[n-1][n-1]
	wholes := make([]Frac, n)
	for i := n - 1; i >= 0; i-- {
		rest := m[i][n].Mul(determinant).Sub(dot(m[i][i+1:n], wholes[i+1:]))
		wholes[i] = rest.exact(m[i][i])
	}
	for i := range wholes {
		wholes[i] = wholes[i].over(determinant)
	}
	return wholes
}
