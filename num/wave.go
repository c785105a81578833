package num

import "fluxmast/api"

// Wave is a complex number. The zero value is 0.
type Wave struct{ re, im Frac }

// Join returns a complex number.
func Join(re, im Frac) Wave {
	return Wave{re, im}
}

// Complex returns the exact value of a complex64.
func Complex(c complex64) (Wave, api.Errno) {
	re, e := Float(float64(real(c)))
	if e != api.OK {
		return Wave{}, e
	}
	im, e := Float(float64(imag(c)))
	if e != api.OK {
		return Wave{}, e
	}
	return Wave{re, im}, api.OK
}

// Re returns the real part.
func (x Wave) Re() Frac {
	return x.re
}

// Im returns the imaginary part.
func (x Wave) Im() Frac {
	return x.im
}

// Add returns the sum.
func (x Wave) Add(y Wave) Wave {
	return Wave{x.re.Add(y.re), x.im.Add(y.im)}
}

// Sub returns the difference.
func (x Wave) Sub(y Wave) Wave {
	return total(x, y.Neg())
}

// Mul returns the product.
func (x Wave) Mul(y Wave) Wave {
	return total(Wave{x.re.Mul(y.re), x.re.Mul(y.im)}, Wave{x.im.Mul(y.im).Neg(), x.im.Mul(y.re)})
}

// Div returns the quotient.
func (x Wave) Div(y Wave) (Wave, api.Errno) {
	if y.Zero() {
		return Wave{}, api.ErrZero
	}
	inverse := Join(y.Norm().inverse(), Frac{})
	return x.Mul(y.Conj()).Mul(inverse), api.OK
}

// Neg returns the negative.
func (x Wave) Neg() Wave {
	return Wave{x.re.Neg(), x.im.Neg()}
}

// Conj returns the conjugate.
func (x Wave) Conj() Wave {
	return Wave{x.re, x.im.Neg()}
}

// Norm returns the sum of the squares of both parts.
func (x Wave) Norm() Frac {
	return total(x.re.Mul(x.re), x.im.Mul(x.im))
}

// Zero reports whether x is 0.
func (x Wave) Zero() bool {
	return x.re.Zero() && x.im.Zero()
}

// Same reports whether x = y.
func (x Wave) Same(y Wave) bool {
	return x.re.Same(y.re) && x.im.Same(y.im)
}

// Near returns the nearest float.
func (x Wave) Near() complex128 {
	return complex(x.re.Near(), x.im.Near())
}

// Near64 returns the nearest complex64.
func (x Wave) Near64() complex64 {
	return complex(x.re.Near32(), x.im.Near32())
}
