package spectra

import (
	"fluxmast/api"
	"fluxmast/num"
)

// Gain returns how much of the power of a frequency a filter lets through.
func Gain(f num.Frac, tau num.Band) (num.Band, api.Errno) {
	return Gains(f, []num.Band{tau})
}

// Gains returns how much of the power of a frequency several filters let through.
func Gains(f num.Frac, taus []num.Band) (num.Band, api.Errno) {
	switch {
	case len(taus) > api.MaxFilters:
		return num.Band{}, api.ErrSize
	case f.Sign() < 0 || anyLoBelow(taus):
		return num.Band{}, api.ErrArg
	}
	return gains(f, taus), api.OK
}

// Loss returns which part of a cospectrum filters let through.
func Loss(model, freqs []num.Frac, taus []num.Band) (num.Band, api.Errno) {
	switch {
	case !between(len(model), 1, api.MaxBands), len(freqs) != len(model), len(taus) > api.MaxFilters:
		return num.Band{}, api.ErrSize
	case anyBelow(model) || anyBelow(freqs) || anyLoBelow(taus):
		return num.Band{}, api.ErrArg
	}
	var all num.Frac
	var left num.Band
	for i, part := range model {
		all = all.Add(part)
		left = left.Add(num.Only(part).Mul(gains(freqs[i], taus)))
	}
	return left.Div(num.Only(all)) // ErrZero, if the model is 0 everywhere
}

// Correct returns the flux without the loss of filters.
func Correct(flux num.Frac, loss num.Band) (num.Band, api.Errno) {
	if loss.Lo().Sign() <= 0 || loss.Hi().Cmp(num.Int(1)) > 0 {
		return num.Band{}, api.ErrArg
	}
	return num.Only(flux).Div(loss)
}

// Response returns how a filter answers to a frequency, nearly.
func Response(f, tau num.Frac) (complex128, api.Errno) {
	if f.Sign() < 0 || tau.Sign() < 0 {
		return 0, api.ErrArg
	}
	one := num.Int(1)
	response, _ := num.Join(one, num.Frac{}).Div(num.Join(one, f.Mul(tau))) // the real part of the divisor is not 0
	return response.Near(), api.OK
}

// anyBelow reports whether a number is below 0.
func anyBelow(l []num.Frac) bool {
	for _, x := range l {
		if x.Sign() < 0 {
			return true
		}
	}
	return false
}

// anyLoBelow reports whether a band has numbers below 0.
func anyLoBelow(l []num.Band) bool {
	for _, b := range l {
		if b.Lo().Sign() < 0 {
			return true
		}
	}
	return false
}

// gains returns the product of the gains of filters whose time constants, like the frequency, are not below 0.
func gains(f num.Frac, taus []num.Band) num.Band {
	one := num.Only(num.Int(1))
	product := one
	for _, tau := range taus {
		gain, _ := one.Div(one.Add(num.Only(f).Mul(tau).Square())) // the divisor is at least 1
		product = product.Mul(gain)
	}
	return product
}
