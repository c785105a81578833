package num

import "fluxmast/api"

// Band is the set of all real numbers from a fraction to another one. The zero value is that of 0 alone.
type Band struct{ lo, hi Frac }

// Make returns the band from lo to hi.
func Make(lo, hi Frac) (Band, api.Errno) {
	if lo.Cmp(hi) > 0 {
		return Band{}, api.ErrOrder
	}
	return Band{lo, hi}, api.OK
}

// Only returns the band of one number.
func Only(x Frac) Band {
	return Band{x, x}
}

// Lo returns the least number.
func (x Band) Lo() Frac {
	return x.lo
}

// Hi returns the greatest number.
func (x Band) Hi() Frac {
	return x.hi
}

// Width returns the difference of both ends.
func (x Band) Width() Frac {
	return x.hi.Sub(x.lo)
}

// Add returns the sum.
func (x Band) Add(y Band) Band {
	return Band{x.lo.Add(y.lo), x.hi.Add(y.hi)}
}

// Sub returns the difference.
func (x Band) Sub(y Band) Band {
	return total(x, y.Neg())
}

// Mul returns the product.
func (x Band) Mul(y Band) Band {
	products := [...]Frac{x.lo.Mul(y.lo), x.lo.Mul(y.hi), x.hi.Mul(y.lo), x.hi.Mul(y.hi)}
	z := Only(products[0])
	for _, p := range products[1:] {
		z = z.Hull(Only(p))
	}
	return z
}

// Neg returns the negative.
func (x Band) Neg() Band {
	return Band{x.hi.Neg(), x.lo.Neg()}
}

// Square returns the band of all squares.
func (x Band) Square() Band {
	ends := Only(x.lo.Mul(x.lo)).Hull(Only(x.hi.Mul(x.hi)))
	if x.Has(Frac{}) {
		return Band{Frac{}, ends.hi}
	}
	return ends
}

// Div returns the quotient.
func (x Band) Div(y Band) (Band, api.Errno) {
	if y.Has(Frac{}) {
		return Band{}, api.ErrZero
	}
	return x.Mul(Band{y.hi.inverse(), y.lo.inverse()}), api.OK
}

// Round rounds outward to k bits.
func (x Band) Round(k int) Band {
	return Band{x.lo.Down(k), x.hi.Up(k)}
}

// Has reports whether a number is in the band.
func (x Band) Has(y Frac) bool {
	return x.lo.Cmp(y) <= 0 && y.Cmp(x.hi) <= 0
}

// In reports whether x is in y.
func (x Band) In(y Band) bool {
	return y.Has(x.lo) && y.Has(x.hi)
}

// Before reports whether all numbers of x are less than all of y.
func (x Band) Before(y Band) bool {
	return x.hi.Cmp(y.lo) < 0
}

// Hull returns the least band that has both.
func (x Band) Hull(y Band) Band {
	return Band{lesser(x.lo, y.lo), greater(x.hi, y.hi)}
}

// Meet returns the band of what both have.
func (x Band) Meet(y Band) (Band, api.Errno) {
	if x.Before(y) || y.Before(x) {
		return Band{}, api.ErrNone
	}
	return Band{greater(x.lo, y.lo), lesser(x.hi, y.hi)}, api.OK
}

func lesser(x, y Frac) Frac {
	if y.Cmp(x) < 0 {
		return y
	}
	return x
}

func greater(x, y Frac) Frac {
	if y.Cmp(x) > 0 {
		return y
	}
	return x
}
