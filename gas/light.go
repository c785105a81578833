package gas

import (
	"fluxmast/api"
	"fluxmast/num"
)

// Depth returns the optical depth that light shows.
func Depth(zero, light num.Frac, k int) (num.Band, api.Errno) {
	if !allAbove(zero, light) {
		return num.Band{}, api.ErrArg
	}
	return num.Log(over(zero, light), k)
}

// Density returns how much gas there is in a path.
func Density(depth num.Band, path, strength num.Frac, k int) (num.Band, api.Errno) {
	if !allAbove(path, strength) {
		return num.Band{}, api.ErrArg
	}
	density, _ := depth.Div(num.Only(path.Mul(strength)))
	return density.Round(k), api.OK
}

// Light returns what a gas leaves of light.
func Light(zero, density, path, strength num.Frac, k int) (num.Band, api.Errno) {
	if !allAbove(zero, path, strength) || anyBelow(density) {
		return num.Band{}, api.ErrArg
	}
	part, e := num.Exp(density.Mul(path).Mul(strength).Neg(), k)
	if e != api.OK {
		return num.Band{}, e
	}
	return num.Only(zero).Mul(part), api.OK
}
