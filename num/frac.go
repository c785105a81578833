// Package num is layer 1: fractions of any size, bands, complex numbers, sums and least squares. See shared/doc/01-num.md.
package num

import (
	"cmp"
	"math"
	"slices"

	"fluxmast/api"
)

// Frac is a fraction of any size. The zero value is 0.
//
// It is in lowest terms, and bottom is nil for 1, so that each number has one form only.
type Frac struct {
	negative    bool
	top, bottom limbs
}

// build returns top/bottom, which is in lowest terms.
func build(negative bool, top, bottom limbs) Frac {
	if len(top) == 0 {
		return Frac{}
	}
	if bottom.isOne() {
		bottom = nil
	}
	return Frac{negative, top, bottom}
}

// ratio returns top/bottom, in their memory; bottom is not 0.
func ratio(negative bool, top, bottom limbs) Frac {
	top, bottom = cancel(top, bottom)
	return build(negative, top, bottom)
}

// cancel divides both by what they have in common; if this is 1, they stay in their memory.
func cancel(x, y limbs) (limbs, limbs) {
	divisor := x.common(y)
	if divisor.isOne() {
		return x, y
	}
	return x.over(divisor), y.over(divisor)
}

// binary returns top/2^places.
func binary(negative bool, top limbs, places int) Frac {
	shift := min(top.zeros(), places)
	return build(negative, top.right(shift), power(places-shift))
}

// under returns the denominator.
func (x Frac) under() limbs {
	if x.bottom == nil {
		return limbs{1}
	}
	return x.bottom
}

// Int returns a whole number.
func Int(n int64) Frac {
	return build(n < 0, size(n), nil)
}

func size(n int64) limbs {
	if n < 0 {
		return word(-uint64(n))
	}
	return word(uint64(n))
}

// New returns n/d.
func New(n, d int64) (Frac, api.Errno) {
	if d == 0 {
		return Frac{}, api.ErrZero
	}
	return ratio((n < 0) != (d < 0), size(n), size(d)), api.OK
}

// Add returns the sum.
func (x Frac) Add(y Frac) Frac {
	if x.bottom == nil && y.bottom == nil {
		negative, top := sumSigned(x.negative, x.top, y.negative, y.top)
		return build(negative, top, nil)
	}
	shared := x.under().common(y.under())
	xFactor, yFactor := y.under().over(shared), x.under().over(shared)
	negative, top := sumSigned(x.negative, x.top.mul(xFactor), y.negative, y.top.mul(yFactor))
	// What the sum has in common with its denominator is in the part that both denominators share (Knuth).
	lost := top.common(shared)
	return build(negative, top.over(lost), yFactor.mul(y.under().over(lost)))
}

func sumSigned(xNegative bool, x limbs, yNegative bool, y limbs) (bool, limbs) {
	switch {
	case xNegative == yNegative:
		return xNegative, x.add(y)
	case x.compare(y) >= 0:
		return xNegative, x.sub(y)
	}
	return yNegative, y.sub(x)
}

// Sub returns the difference.
func (x Frac) Sub(y Frac) Frac {
	return total(x, y.Neg())
}

// Mul returns the product.
func (x Frac) Mul(y Frac) Frac {
	xTop, yBottom := cancel(x.top, y.under())
	yTop, xBottom := cancel(y.top, x.under())
	return build(x.negative != y.negative, xTop.mul(yTop), xBottom.mul(yBottom))
}

// Div returns the quotient.
func (x Frac) Div(y Frac) (Frac, api.Errno) {
	if y.Zero() {
		return Frac{}, api.ErrZero
	}
	return x.over(y), api.OK
}

// over returns x/y, for a y other than 0.
func (x Frac) over(y Frac) Frac {
	return x.Mul(y.inverse())
}

// inverse returns 1/x, for an x other than 0.
func (x Frac) inverse() Frac {
	return build(x.negative, slices.Clone(x.under()), slices.Clone(x.top))
}

// Neg returns the negative.
func (x Frac) Neg() Frac {
	return build(!x.negative, slices.Clone(x.top), slices.Clone(x.bottom))
}

// Abs returns the absolute value.
func (x Frac) Abs() Frac {
	return build(false, slices.Clone(x.top), slices.Clone(x.bottom))
}

// Zero reports whether x is 0.
func (x Frac) Zero() bool {
	return len(x.top) == 0
}

// Same reports whether x = y.
func (x Frac) Same(y Frac) bool {
	return x.negative == y.negative && slices.Equal(x.top, y.top) && slices.Equal(x.bottom, y.bottom)
}

// Sign returns the sign.
func (x Frac) Sign() int {
	switch {
	case x.Zero():
		return 0
	case x.negative:
		return -1
	}
	return 1
}

// Cmp returns the sign of x - y.
func (x Frac) Cmp(y Frac) int {
	if x.Sign() != y.Sign() {
		return cmp.Compare(x.Sign(), y.Sign())
	}
	return x.Sign() * x.top.mul(y.under()).compare(y.top.mul(x.under()))
}

// Floor returns the greatest integer that is not above x.
func (x Frac) Floor() Frac {
	return x.Down(0)
}

// Down rounds down to k bits.
func (x Frac) Down(k int) Frac {
	k = places(k)
	quotient, rest := x.top.left(k).divide(x.under())
	if x.negative && len(rest) > 0 {
		quotient = quotient.add(limbs{1})
	}
	return binary(x.negative, quotient, k)
}

// Up rounds up to k bits.
func (x Frac) Up(k int) Frac {
	return x.Neg().Down(k).Neg()
}

// places returns the number of bits for which k counts.
func places(k int) int {
	return min(max(k, 0), api.MaxBits)
}

// Whole returns x, if it is an integer that fits.
func (x Frac) Whole() (int64, bool) {
	if len(x.top) > 1 || len(x.bottom) > 0 {
		return 0, false
	}
	n := x.top.window(0)
	switch {
	case x.negative && n <= 1<<63:
		return -int64(n), true
	case !x.negative && n <= math.MaxInt64:
		return int64(n), true
	}
	return 0, false
}

// exponent returns the e for which the absolute value of x, which is not 0, is from 2^e to less than 2^(e + 1).
func (x Frac) exponent() int {
	e := x.top.length() - x.under().length()
	if top, bottom := x.shifted(e); top.compare(bottom) < 0 {
		e--
	}
	return e
}

// shifted returns whole numbers whose quotient is the absolute value of x divided by 2^e.
func (x Frac) shifted(e int) (limbs, limbs) {
	if e > 0 {
		return x.top, x.under().left(e)
	}
	return x.top.left(-e), x.under()
}
