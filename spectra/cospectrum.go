package spectra

import "fluxmast/api"

// Cospectrum returns what each frequency has of the products of two series.
func Cospectrum(x, y []int) ([]Cyc, api.Errno) {
	if e := pairError(x, y, blockError); e != api.OK {
		return nil, e
	}
	return cospectrum(x, y), api.OK
}

// Bands returns what bands of frequencies have of the products of two series.
func Bands(x, y []int, edges []int) ([]Cyc, api.Errno) {
	c, e := Cospectrum(x, y)
	if e != api.OK {
		return nil, e
	}
	if e := edgesError(edges, len(c)); e != api.OK {
		return nil, e
	}
	bands := make([]Cyc, len(edges)-1)
	for i := range bands {
		bands[i] = together(c, edges[i], edges[i+1])
	}
	return bands, api.OK
}

// Ogive returns what all frequencies from each one on have together.
func Ogive(x, y []int) ([]Cyc, api.Errno) {
	c, e := Cospectrum(x, y)
	if e != api.OK {
		return nil, e
	}
	ogive := make([]Cyc, len(c))
	for f := range ogive {
		ogive[f] = together(c, f, len(c))
	}
	return ogive, api.OK
}

// edgesError returns the error of the edges of bands, for the frequencies from 0 to the one ahead of end.
func edgesError(edges []int, end int) api.Errno {
	if !between(len(edges), 2, api.MaxBands+1) {
		return api.ErrSize
	}
	for i, edge := range edges {
		switch {
		case !between(edge, 0, end):
			return api.ErrArg
		case i > 0 && edge <= edges[i-1]:
			return api.ErrOrder
		}
	}
	return api.OK
}

// cospectrum returns the cospectrum of two blocks of the same length.
func cospectrum(x, y []int) []Cyc {
	c := cross(transform(x), transform(y))
	last := len(c) / 2
	sums := make([]Cyc, last+1)
	for f := range span(0, last+1) {
		sums[f] = c[f]
		if f != 0 && f != last { // it stands for another frequency, too, which has the conjugate
			sums[f] = c[f].plus(c[f].conj())
		}
	}
	return sums
}

// together returns what the frequencies from first to the one ahead of end have together.
func together(cospectrum []Cyc, first, end int) Cyc {
	return total(span(first, end), func(f int) Cyc { return cospectrum[f] })
}
