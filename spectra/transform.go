package spectra

import "fluxmast/api"

// Transform returns the discrete Fourier transform of samples.
func Transform(l []int) ([]Cyc, api.Errno) {
	if e := blockError(l); e != api.OK {
		return nil, e
	}
	return transform(l), api.OK
}

// Back returns the samples with a transform.
func Back(l []Cyc) ([]int, api.Errno) {
	if e := transformsError(l); e != api.OK {
		return nil, e
	}
	n := len(l)
	samples := make([]int, n)
	for j := range samples {
		sum := total(span(0, n), func(m int) Cyc { return l[m].turned(wholeTurn / n * j * m) })
		if sum != (Cyc{sum[0]}) || sum[0]%n != 0 {
			return nil, api.ErrNone
		}
		samples[j] = sum[0] / n
	}
	return samples, api.OK
}

// Cross returns the cross spectrum of two transforms.
func Cross(a, b []Cyc) ([]Cyc, api.Errno) {
	if e := pairError(a, b, transformsError); e != api.OK {
		return nil, e
	}
	return cross(a, b), api.OK
}

// Convolve returns the circular convolution of samples.
func Convolve(a, b []int) ([]int, api.Errno) {
	if e := pairError(a, b, blockError); e != api.OK {
		return nil, e
	}
	n := len(a)
	convolution := make([]int, n)
	for j := range convolution {
		// A whole number is one of the ring, with just its first coefficient.
		convolution[j] = total(span(0, n), func(i int) Cyc { return Cyc{a[i] * b[(j-i+n)%n]} })[0]
	}
	return convolution, api.OK
}

// transform returns the transform of a block.
func transform(l []int) []Cyc {
	n := len(l)
	t := make([]Cyc, n)
	for m := range t {
		t[m] = total(span(0, n), func(j int) Cyc { return Cyc{l[j]}.turned(-wholeTurn / n * j * m) })
	}
	return t
}

// cross returns the products of the numbers of a and of the conjugates of those of b, which are small.
func cross(a, b []Cyc) []Cyc {
	c := make([]Cyc, len(a))
	for m, x := range a {
		c[m] = x.times(b[m].conj())
	}
	return c
}
