package fill

import (
	"fluxmast/api"
	"fluxmast/num"
)

// Breath returns the respiration at a temperature.
func Breath(s Soil, temp num.Band, k int) (num.Band, api.Errno) {
	if s.Base.Sign() < 0 || s.Rise.Sign() < 0 {
		return num.Band{}, api.ErrArg
	}
	power, e := num.Only(s.Rise).Mul(temp).Exp(k)
	if e != api.OK {
		return num.Band{}, e
	}
	return num.Only(s.Base).Mul(power), api.OK
}

// Growth returns the photosynthesis in light.
func Growth(p Plant, light num.Frac) (num.Frac, api.Errno) {
	if p.Rise.Sign() <= 0 || p.Most.Sign() <= 0 || light.Sign() < 0 {
		return num.Frac{}, api.ErrArg
	}
	rise := p.Rise.Mul(light)
	return rise.Mul(p.Most).Div(rise.Add(p.Most))
}

// Parted returns the photosynthesis that a flux and the respiration tell.
func Parted(flux, breath num.Band) num.Band {
	return breath.Sub(flux)
}

// Differ returns how far two ways of parting a flux are from each other.
func Differ(flux num.Frac, s Soil, p Plant, temp num.Band, light num.Frac, k int) (num.Band, api.Errno) {
	breath, e := Breath(s, temp, k)
	if e != api.OK {
		return num.Band{}, e
	}
	growth, e := Growth(p, light)
	if e != api.OK {
		return num.Band{}, e
	}
	return Parted(num.Only(flux), breath).Sub(num.Only(growth)), api.OK
}
