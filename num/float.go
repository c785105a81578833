package num

import (
	"math"

	"fluxmast/api"
)

// format describes the floats of a size: they have as many binary digits, are multiples of 2^lowest, and below 2^highest.
type format struct{ digits, lowest, highest int }

func format64() format { return format{53, -1074, 1024} }
func format32() format { return format{24, -149, 128} }

// infinity returns the bits of infinity. The bits of floats, read as numbers, ascend from 0 up to it with their values.
func (f format) infinity() uint64 {
	return uint64(f.highest-f.lowest-f.digits+2) << (f.digits - 1)
}

// Float returns the exact value of a float.
func Float(f float64) (Frac, api.Errno) {
	double := format64()
	digits := math.Float64bits(f) &^ (1 << 63)
	if digits >= double.infinity() {
		return Frac{}, api.ErrArg
	}
	exponent := double.lowest
	if first := uint64(1) << (double.digits - 1); digits >= first { // not subnormal: the first digit is not among the bits
		exponent += int(digits/first) - 1
		digits = digits%first + first
	}
	negative, top := math.Signbit(f), word(digits)
	if exponent > 0 {
		return build(negative, top.left(exponent), nil), api.OK
	}
	return binary(negative, top, -exponent), api.OK
}

// Near returns the nearest float.
func (x Frac) Near() float64 {
	f := math.Float64frombits(format64().nearest(x))
	if x.negative && f != 0 {
		return -f
	}
	return f
}

// Near32 returns the nearest float32.
func (x Frac) Near32() float32 {
	f := math.Float32frombits(uint32(format32().nearest(x)))
	if x.negative && f != 0 {
		return -f
	}
	return f
}

// nearest returns the bits of the float that is nearest to the absolute value of x.
func (f format) nearest(x Frac) uint64 {
	if x.Zero() {
		return 0
	}
	e := x.exponent()
	switch {
	case e < f.lowest-1:
		return 0
	case e >= f.highest:
		return f.infinity()
	}
	unit := max(e-f.digits+1, f.lowest)
	top, bottom := x.shifted(unit)
	quotient, rest := top.divide(bottom)
	n := quotient.window(0)
	if order := rest.left(1).compare(bottom); order > 0 || order == 0 && n%2 == 1 {
		n++
	}
	// A first digit that is not among the bits adds 1 to the exponent, and so does one that rounding has carried on, up
	// to infinity.
	return uint64(unit-f.lowest)<<(f.digits-1) + n
}
