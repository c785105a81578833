package budget

import (
	"fluxmast/api"
	"fluxmast/num"
)

const (
	// maxFlux is the greatest absolute value of a flux of heat.
	maxFlux = 1 << 30
	// daySeconds is how many seconds a day has.
	daySeconds = 86400
)

// Net returns the net radiation.
func Net(shortIn, shortOut, longIn, longOut int) (int, api.Errno) {
	for _, flux := range [...]int{shortIn, shortOut, longIn, longOut} {
		if !between(flux, 0, maxFlux) {
			return 0, api.ErrArg
		}
	}
	return shortIn - shortOut + longIn - longOut, api.OK
}

// Residual returns what is missing in a budget of heat.
func Residual(f Fluxes) (int, api.Errno) {
	if !f.isValid() {
		return 0, api.ErrArg
	}
	return f.available() - f.measured(), api.OK
}

// Ratio returns which part of the available heat was measured as fluxes.
func Ratio(l []Fluxes) (num.Frac, api.Errno) {
	available, measured, e := heats(l)
	if e != api.OK {
		return num.Frac{}, e
	}
	top, _ := num.Sum(measured)
	bottom, _ := num.Sum(available)
	return top.Div(bottom)
}

// Slope returns the slope through the origin of the fluxes over the available heat.
func Slope(l []Fluxes) (num.Frac, api.Errno) {
	available, measured, e := heats(l)
	if e != api.OK {
		return num.Frac{}, e
	}
	products, _ := num.Dot(measured, available)
	squares, _ := num.Dot(available, available)
	return products.Div(squares)
}

// Storage returns the heat that a layer takes up.
func Storage(heat, depth, before, after num.Frac, seconds int) (num.Frac, api.Errno) {
	if heat.Sign() < 0 || depth.Sign() < 0 || !between(seconds, 1, daySeconds) {
		return num.Frac{}, api.ErrArg
	}
	return heat.Mul(depth).Mul(after.Sub(before)).Div(whole(seconds))
}

func (f Fluxes) isValid() bool {
	return allSmall(maxFlux, f.Net, f.Ground, f.Store, f.Sensible, f.Latent)
}

func (f Fluxes) available() int {
	return f.Net - f.Ground - f.Store
}

func (f Fluxes) measured() int {
	return f.Sensible + f.Latent
}

// heats returns the available and the measured heat of each run. They are fractions, as sums of their squares may leave an
// int.
func heats(l []Fluxes) (available, measured []num.Frac, e api.Errno) {
	if !between(len(l), 1, api.MaxRuns) {
		return nil, nil, api.ErrSize
	}
	for _, f := range l {
		if !f.isValid() {
			return nil, nil, api.ErrArg
		}
		available = append(available, whole(f.available()))
		measured = append(measured, whole(f.measured()))
	}
	return available, measured, api.OK
}
