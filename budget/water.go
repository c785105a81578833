package budget

import (
	"fluxmast/api"
	"fluxmast/num"
)

// maxRaw is the greatest absolute value of what a load cell reads.
const maxRaw = 1 << 40

// Mass returns what load cells weigh together.
func Mass(l []Cell) (num.Frac, api.Errno) {
	if !between(len(l), 1, api.MaxChambers) {
		return num.Frac{}, api.ErrSize
	}
	var sum num.Frac
	for _, c := range l {
		if !allSmall(maxRaw, c.Raw) || c.Gain.Sign() <= 0 {
			return num.Frac{}, api.ErrArg
		}
		sum = sum.Add(whole(c.Raw).Sub(c.Zero).Mul(c.Gain))
	}
	return sum, api.OK
}

// Evaporated returns the water that a column of ground lost to the air.
func Evaporated(before, after, rain, drained num.Frac) num.Frac {
	return rain.Sub(drained).Sub(after.Sub(before))
}

// Sap returns the speed of sap by the ratio of two warmings.
func Sap(ratio, spread, distance num.Frac, k int) (num.Band, api.Errno) {
	if spread.Sign() <= 0 || distance.Sign() <= 0 {
		return num.Band{}, api.ErrArg
	}
	log, e := num.Log(ratio, k)
	if e != api.OK {
		return num.Band{}, e
	}
	speed, _ := spread.Div(distance)
	return num.Only(speed).Mul(log), api.OK
}
