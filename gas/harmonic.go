package gas

import (
	"slices"

	"fluxmast/api"
	"fluxmast/num"
)

// period is how many samples, and how many harmonics, a period has.
const period = 4

// Harmonic returns a harmonic of samples, four of which are a period.
func Harmonic(samples []complex64, n int) (num.Wave, api.Errno) {
	if !between(len(samples), period, api.MaxSamples) || len(samples)%period != 0 {
		return num.Wave{}, api.ErrSize
	}
	values := make([]num.Wave, len(samples))
	for i, sample := range samples {
		value, e := num.Complex(sample)
		if e != api.OK {
			return num.Wave{}, e
		}
		values[i] = value
	}
	if !between(n, 0, period-1) {
		return num.Wave{}, api.ErrArg
	}
	count := num.Join(whole(len(values)), num.Frac{})
	return series(values, unit(period-n)).Div(count)
}

// Pattern returns the four samples of a period that have given harmonics.
func Pattern(h [4]num.Wave) [4]num.Wave {
	var samples [4]num.Wave
	for j := range samples {
		samples[j] = series(h[:], unit(j))
	}
	return samples
}

// unit returns the power of i with an exponent that is not below 0.
func unit(exponent int) num.Wave {
	powers := [period]complex64{1, 1i, -1, -1i}
	power, _ := num.Complex(powers[exponent%period])
	return power
}

// series returns the sum of all l[j] times the power of z with the exponent j.
func series(l []num.Wave, z num.Wave) num.Wave {
	var sum num.Wave
	for _, x := range slices.Backward(l) {
		sum = sum.Mul(z).Add(x)
	}
	return sum
}
