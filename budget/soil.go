package budget

import (
	"fluxmast/api"
	"fluxmast/num"
)

const (
	// daySamples is how many samples a day has.
	daySamples = 4
	maxLayers  = 16
)

// Harmonics returns the mean and the harmonics of four samples of a day.
func Harmonics(l [4]num.Frac) [3]num.Wave {
	// The harmonic of three turns a day is the conjugate of the middle one, with the same real part in each sample, so that
	// the middle one stands for both.
	counts := [...]int{1, 2, 1}
	var harmonics [3]num.Wave
	for h := range harmonics {
		var sum num.Wave
		for j, x := range l {
			sum = sum.Add(plain(x).Mul(unit(-h * j)))
		}
		harmonics[h], _ = sum.Mul(plain(whole(counts[h]))).Div(plain(whole(daySamples)))
	}
	return harmonics
}

// Sample returns the sample of a day with a mean and harmonics.
func Sample(l [3]num.Wave, j int) num.Frac {
	z := unit(j)
	return l[0].Add(z.Mul(l[1].Add(z.Mul(l[2])))).Re()
}

// Damp returns harmonics below some layers of soil.
func Damp(l, ratio [3]num.Wave, layers int) ([3]num.Wave, api.Errno) {
	if !between(layers, 0, maxLayers) {
		return [3]num.Wave{}, api.ErrArg
	}
	for range layers {
		for h := range l {
			l[h] = l[h].Mul(ratio[h])
		}
	}
	return l, api.OK
}

// plain returns a number as a complex one.
func plain(x num.Frac) num.Wave {
	return num.Join(x, num.Frac{})
}

// unit returns the power of i with any exponent.
func unit(exponent int) num.Wave {
	powers := [daySamples]complex64{1, 1i, -1, -1i}
	// The last two binary digits are the rest by 4, also of an exponent below 0.
	power, _ := num.Complex(powers[exponent&(daySamples-1)])
	return power
}
