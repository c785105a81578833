package spectra

import (
	"fluxmast/api"
	"fluxmast/num"
)

const (
	// signBits is how many bits are asked for a sign at first.
	signBits = 32
	// reportBits is how many bits a report asks for.
	reportBits = 40
)

// Real returns a band that has the real part.
func Real(x Cyc, k int) (num.Band, api.Errno) {
	if !x.within(right) {
		return num.Band{}, api.ErrArg
	}
	return x.realPart(k), api.OK
}

// Sign returns the sign of a real number.
func Sign(x Cyc) (int, api.Errno) {
	switch {
	case !x.within(right):
		return 0, api.ErrArg
	case !x.isReal():
		return 0, api.ErrNone
	}
	return x.sign(), api.OK
}

// Greatest returns the index of the first greatest one of real numbers.
func Greatest(l []Cyc) (int, api.Errno) {
	if !between(len(l), 1, api.MaxBlock) {
		return 0, api.ErrSize
	}
	for _, x := range l {
		switch {
		case !x.within(right / 2): // differences are right, then
			return 0, api.ErrArg
		case !x.isReal():
			return 0, api.ErrNone
		}
	}
	best := 0
	for i, x := range l {
		if x.minus(l[best]).sign() > 0 {
			best = i
		}
	}
	return best, api.OK
}

// Report returns numbers nearly.
func Report(l []Cyc) ([]complex64, api.Errno) {
	if len(l) > api.MaxBlock {
		return nil, api.ErrSize
	}
	report := make([]complex64, len(l))
	for i, x := range l {
		if !x.within(right) {
			return nil, api.ErrArg
		}
		report[i] = complex(x.near(), x.turned(-quarterTurn).near())
	}
	return report, api.OK
}

// doubleCosines returns bands that have twice the cosines of one, two and three sixteenths of a whole turn.
func doubleCosines(k int) [3]num.Band {
	two := num.Int(2)
	r, _ := num.Root(two, k) // it is from 1 to 2, so that no root below has an error
	u, _ := num.Only(two).Add(r).Root(k)
	v, _ := num.Only(two).Sub(r).Root(k)
	return [3]num.Band{u, r, v}
}

// realPart returns a band that has the real part of a right number.
func (x Cyc) realPart(k int) num.Band {
	sum := num.Only(num.Int(int64(x[0])))
	for i, cosine := range doubleCosines(k) {
		// The real part of z^(8 - j) is that of z^j, negated.
		half, _ := num.New(int64(x[i+1]-x[halfTurn-i-1]), 2)
		sum = sum.Add(num.Only(half).Mul(cosine))
	}
	return sum
}

// sign returns the sign of a right number that is real.
//
// A number other than 0 is told from 0 with MaxBits: the product of it and of the three numbers that have z^3, z^5 and
// z^7 in the place of z is an integer other than 0. None of these three is 2^59 from 0, so that the number is at least
// 2^-177 from it, while the band of its real part is less than 2^-197 wide.
func (x Cyc) sign() int {
	sign := 0
moreBits:
	for bits := signBits; bits <= api.MaxBits; bits *= 2 {
		band := x.realPart(bits)
		switch {
		case band.Lo().Sign() > 0:
			sign = 1
			break moreBits
		case band.Hi().Sign() < 0:
			sign = -1
			break moreBits
		}
	}
	return sign
}

// near returns the float nearest to the low end of the real part.
func (x Cyc) near() float32 {
	return x.realPart(reportBits).Lo().Near32()
}
