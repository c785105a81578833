package num

import "fluxmast/api"

// Exp and Log enclose with as many more bits as are asked for at first, so that one enclosure is nearly always enough.
const spareBits = 64

// Root returns the band around a root.
func Root(x Frac, k int) (Band, api.Errno) {
	if x.Sign() < 0 {
		return Band{}, api.ErrArg
	}
	k = places(k)
	square, rest := x.top.left(2 * k).divide(x.under())
	root := square.root()
	if len(rest) == 0 && root.mul(root).compare(square) == 0 {
		return Only(binary(false, root, k)), api.OK
	}
	return cell(binary(false, root, k), k), api.OK
}

// Exp returns the band around a power of e.
func Exp(x Frac, k int) (Band, api.Errno) {
	k = places(k)
	switch {
	case x.Abs().Cmp(Int(64)) > 0:
		return Band{}, api.ErrArg
	case x.Zero():
		return Only(Int(1)), api.OK
	case x.tiny(k): // e^x is nearer to 1 than any number of bits that x does not ask for could tell
		return beside(Int(1), x.Sign(), k), api.OK
	}
	return settle(k, func(bits int) Band { return x.enclosePower(bits) }), api.OK
}

// Log returns the band around a natural logarithm.
func Log(x Frac, k int) (Band, api.Errno) {
	k = places(k)
	if x.Cmp(binary(false, limbs{1}, 64)) < 0 || x.Cmp(build(false, power(64), nil)) > 0 {
		return Band{}, api.ErrArg
	}
	above := x.Sub(Int(1))
	switch {
	case above.Zero():
		return Band{}, api.OK
	case above.tiny(k):
		return beside(Frac{}, above.Sign(), k), api.OK
	}
	return settle(k, func(bits int) Band { return x.encloseLog(bits) }), api.OK
}

// Root returns the band of all roots.
func (x Band) Root(k int) (Band, api.Errno) {
	return x.rising(func(end Frac) (Band, api.Errno) { return Root(end, k) })
}

// Exp returns the band of all powers of e.
func (x Band) Exp(k int) (Band, api.Errno) {
	return x.rising(func(end Frac) (Band, api.Errno) { return Exp(end, k) })
}

// Log returns the band of all logarithms.
func (x Band) Log(k int) (Band, api.Errno) {
	return x.rising(func(end Frac) (Band, api.Errno) { return Log(end, k) })
}

// rising returns the band of all values that a function which rises has in x.
func (x Band) rising(function func(Frac) (Band, api.Errno)) (Band, api.Errno) {
	low, e := function(x.lo)
	if e != api.OK {
		return Band{}, e
	}
	high, e := function(x.hi)
	if e != api.OK {
		return Band{}, e
	}
	return Band{low.lo, high.hi}, api.OK
}

// cell returns the band from lo to 2^-k above it.
func cell(lo Frac, k int) Band {
	return Band{lo, lo.Add(binary(false, limbs{1}, k))}
}

// beside returns the band of the width 2^-k above x, or below it, as the sign says.
func beside(x Frac, sign, k int) Band {
	if sign > 0 {
		return cell(x, k)
	}
	return cell(x.Neg(), k).Neg()
}

// tiny reports whether x is not 0, and its absolute value at most 2^-(k + 1). Then e^x and 1, and the logarithm of
// 1 + x and 0, differ by less than 2 |x|, at most 2^-k.
func (x Frac) tiny(k int) bool {
	return !x.Zero() && x.top.left(k+1).compare(x.under()) <= 0
}

// settle returns the band with k bits around an irrational number, of which enclose returns a band that is the
// narrower, the more bits it is asked for. The number is no multiple of 2^-k, so that some band of it has none inside.
func settle(k int, enclose func(bits int) Band) Band {
narrower:
	for bits := k + spareBits; ; bits *= 2 {
		number := enclose(bits)
		around := cell(number.lo.Down(k), k)
		for _, end := range [...]Frac{number.lo, number.hi} {
			if !around.Has(end) {
				continue narrower
			}
		}
		return around
	}
}
