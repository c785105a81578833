package gas

import (
	"fluxmast/api"
	"fluxmast/num"
)

// gasConstant is that of ideal gases, in thousandths of a joule for a mole and a kelvin.
const gasConstant = 8314

// Mixing returns the mixing ratio of a gas in dry air.
func Mixing(c, t, p, e num.Frac) (num.Frac, api.Errno) {
	dry, ok := dryAir(t, p, e)
	if !ok || anyBelow(c) {
		return num.Frac{}, api.ErrArg
	}
	return over(c, dry), api.OK
}

// Concentration returns how much gas there is, for a mixing ratio.
func Concentration(ratio, t, p, e num.Frac) (num.Frac, api.Errno) {
	dry, ok := dryAir(t, p, e)
	if !ok || anyBelow(ratio) {
		return num.Frac{}, api.ErrArg
	}
	return ratio.Mul(dry), api.OK
}

// Dilute returns how much of a gas is left when water vapour is added.
func Dilute(c, p, e, water num.Frac) (num.Frac, api.Errno) {
	before := p.Sub(e)
	after := before.Sub(water)
	if anyBelow(c, e, water) || !allAbove(after) {
		return num.Frac{}, api.ErrArg
	}
	return over(c.Mul(after), before), api.OK
}

// dryAir returns how many moles of dry air are in a cubic metre, and whether there can be such air.
func dryAir(t, p, e num.Frac) (num.Frac, bool) {
	pressure := p.Sub(e)
	if anyBelow(e) || !allAbove(t, pressure) {
		return num.Frac{}, false
	}
	return over(whole(1000).Mul(pressure), whole(gasConstant).Mul(t)), true
}
