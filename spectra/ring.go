package spectra

import "fluxmast/api"

// Cyc is a number a[0] + a[1] z + .. + a[7] z^7, where z is the first sixteenth root of unity.
type Cyc [8]int

const (
	// halfTurn is the exponent with which z is -1, and how many coefficients a number has.
	halfTurn = 8
	// wholeTurn is the exponent with which z is 1, a power of 2.
	wholeTurn = 2 * halfTurn
	// quarterTurn is the exponent with which z is i.
	quarterTurn = halfTurn / 2
)

// Root returns a power of z.
func Root(n int) Cyc {
	return Cyc{1}.turned(n)
}

// Add returns a sum.
func Add(x, y Cyc) (Cyc, api.Errno) {
	if !x.within(right) || !y.within(right) {
		return Cyc{}, api.ErrArg
	}
	return x.plus(y), api.OK
}

// Sub returns a difference.
func Sub(x, y Cyc) (Cyc, api.Errno) {
	if !x.within(right) || !y.within(right) {
		return Cyc{}, api.ErrArg
	}
	return x.minus(y), api.OK
}

// Mul returns a product.
func Mul(x, y Cyc) (Cyc, api.Errno) {
	if !x.within(small) || !y.within(small) {
		return Cyc{}, api.ErrArg
	}
	return x.times(y), api.OK
}

// Conj returns the complex conjugate.
func Conj(x Cyc) (Cyc, api.Errno) {
	if !x.within(right) {
		return Cyc{}, api.ErrArg
	}
	return x.conj(), api.OK
}

// IsReal reports whether a number is real.
func IsReal(x Cyc) (bool, api.Errno) {
	if !x.within(right) {
		return false, api.ErrArg
	}
	return x.isReal(), api.OK
}

// within reports whether the absolute value of no coefficient is above most.
func (x Cyc) within(most int) bool {
	for _, a := range x {
		if !between(a, -most, most) {
			return false
		}
	}
	return true
}

func (x Cyc) plus(y Cyc) Cyc {
	for i := range x {
		x[i] += y[i]
	}
	return x
}

func (x Cyc) minus(y Cyc) Cyc {
	return x.plus(y.scaled(-1))
}

// scaled returns x times a whole number.
func (x Cyc) scaled(factor int) Cyc {
	for i := range x {
		x[i] *= factor
	}
	return x
}

// turned returns x times z^n.
func (x Cyc) turned(n int) Cyc {
	n &= wholeTurn - 1 // the remainder that is not below 0
	var y Cyc
	for i, a := range x {
		place := i + n
		if place/halfTurn%2 != 0 { // z^halfTurn is -1
			a = -a
		}
		y[place%halfTurn] = a
	}
	return y
}

func (x Cyc) times(y Cyc) Cyc {
	return total(span(0, len(y)), func(i int) Cyc { return x.turned(i).scaled(y[i]) })
}

func (x Cyc) conj() Cyc {
	y := Cyc{x[0]}
	for i := 1; i < halfTurn; i++ {
		y[halfTurn-i] = -x[i]
	}
	return y
}

func (x Cyc) isReal() bool {
	return x == x.conj()
}
