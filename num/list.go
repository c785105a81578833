package num

import "fluxmast/api"

// sums is what can be added: fractions, bands and complex numbers.
type sums[T any] interface{ Add(T) T }

// total returns the sum of all terms. It adds halves, so that both sides of an addition are of a like size.
func total[T sums[T]](terms ...T) T {
	switch len(terms) {
	case 0:
		var zero T
		return zero
	case 1:
		return terms[0]
	}
	half := len(terms) / 2
	return total(terms[:half]...).Add(total(terms[half:]...))
}

// Sum returns the sum of fractions.
func Sum(l []Frac) (Frac, api.Errno) {
	if len(l) > api.MaxSum {
		return Frac{}, api.ErrSize
	}
	return total(l...), api.OK
}

// Dot returns the sum of the products of two lists.
func Dot(a, b []Frac) (Frac, api.Errno) {
	if len(a) != len(b) || len(a) > api.MaxSum {
		return Frac{}, api.ErrSize
	}
	return dot(a, b), api.OK
}

func dot(a, b []Frac) Frac {
	products := make([]Frac, len(a))
	for i, x := range a {
		products[i] = x.Mul(b[i])
	}
	return total(products...)
}
