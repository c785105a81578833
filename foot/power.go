package foot

import (
	"fluxmast/api"
	"fluxmast/num"
)

const (
	// farthest is the greatest r of which layer 1 tells e^r.
	farthest = 64
	// moreHalvings is how many more times r is halved with each square of the unit.
	moreHalvings = 10
)

// fallen returns the greatest integer that is not above n e^-r, for an n from 0 to MaxWhole, and an r above 0.
func fallen(n int, r num.Frac) int {
	if r.Cmp(whole(farthest)) > 0 {
		return 0
	}
	power, _ := num.Exp(r.Neg(), api.MaxBits)
	exact := num.Only(whole(n)).Mul(power)
	// As r is a fraction other than 0, e^-r is none, so that n e^-r is above Lo and below Hi, unless all three are 0.
	low, _ := exact.Lo().Floor().Whole()
	high, _ := exact.Hi().Up(0).Whole()
	if high == low+2 {
		// The integer between is so near that MaxBits do not tell on which side of it n e^-r is.
		if quotient, _ := num.New(int64(n), low+1); powerBelow(r, quotient) {
			low++
		}
	}
	return int(low)
}

// powerBelow reports whether e^r is below a fraction, for an r above 0 and at most 64. Both are never the same, as e^r is
// irrational, so that enough digits tell them apart.
func powerBelow(r, quotient num.Frac) bool {
	unit := whole(1 << 62)
	for halvings := moreHalvings; ; halvings += moreHalvings {
		power, limit := enclose(r, unit, halvings), num.Only(quotient.Mul(unit))
		switch {
		case power.Before(limit):
			return true
		case limit.Before(power):
			return false
		}
		unit = unit.Mul(unit)
	}
}

// enclose returns a band of e^r times a unit, for an r above 0 and at most 64: the series of a part of r, squared as
// often as r was halved. Each square doubles the width of the band, compared with the number, which is little beside the
// square of a unit.
func enclose(r, unit num.Frac, halvings int) num.Band {
	units := num.Only(unit)
	part, _ := num.Only(r).Mul(units).Round(0).Div(units) // with no more digits than the unit
	half, _ := num.New(1, 2)
	for range halvings {
		part = part.Mul(num.Only(half))
	}
	term, sum := units, units
	for n := 1; !term.Lo().Zero(); n++ {
		term, _ = term.Mul(part).Div(num.Only(whole(n)))
		term = term.Round(0)
		sum = sum.Add(term)
	}
	// The part is less than 1/2, so that the terms that are left are less than the last one together.
	sum = sum.Hull(sum.Add(term))
	for range halvings {
		sum, _ = sum.Square().Div(units)
		sum = sum.Round(0)
	}
	return sum
}
