package num

import "math"

// Numbers below are kept as multiples of 2^-scale, rounded down. The errors that the comments speak of are counted in
// units of 2^-scale.

// enclosePower returns a band of e^x, for an x of at most 64, whose width is at most 2^-bits.
func (x Frac) enclosePower(bits int) Band {
	// The more often x is halved, the fewer terms there are, but the more squares. Errors double with each square, and
	// e^64 has 93 bits ahead of the point.
	halvings := 8 + int(math.Sqrt(float64(bits)))
	scale := bits + halvings + 128
	part := x.top.left(scale - halvings).over(x.under())
	lo, hi := powerSeries(part, scale)
	for range halvings {
		lo = lo.mul(lo).right(scale)
		hi = hi.mul(hi).right(scale).add(limbs{1})
	}
	if x.negative {
		one := power(2 * scale)
		lo, hi = one.over(hi), one.over(lo).add(limbs{1})
	}
	return Band{binary(false, lo, scale), binary(false, hi, scale)}
}

// powerSeries returns limits of e^x, for an x from part to less than part + 1 units, and at most 1/4.
func powerSeries(part limbs, scale int) (limbs, limbs) {
	term := power(scale)
	sum := term
	var terms uint64
	for len(term) > 0 {
		terms++
		term, _ = term.mul(part).right(scale).divideWord(terms)
		sum = sum.add(term)
	}
	// Each term is too small by at most 1, and by a quarter of the error of the one ahead, so by less than 2. The terms
	// behind the last one are less than 2 together, and so is what the rest of x makes of e^x.
	return sum, sum.add(word(2*terms + 4))
}

// encloseLog returns a band of the logarithm of x, for an x from 2^-64 to 2^64, whose width is at most 2^-bits.
func (x Frac) encloseLog(bits int) Band {
	scale := bits + 32
	// x is 2^e (1 + z)/(1 - z), with z = (x - 2^e)/(x + 2^e) from 0 to 1/3, and 2 is (1 + z)/(1 - z) with z = 1/3.
	e := x.exponent()
	top, bottom := x.shifted(e)
	rest := areaTangent(top.sub(bottom), top.add(bottom), scale)
	two := areaTangent(limbs{1}, limbs{3}, scale)
	return Only(Int(2)).Mul(rest.Add(two.Mul(Only(Int(int64(e))))))
}

// areaTangent returns a band of the number whose hyperbolic tangent is z = top/bottom, from 0 to 1/3: the sum of all
// z^n/n for odd n.
func areaTangent(top, bottom limbs, scale int) Band {
	part := top.left(scale).over(bottom)
	square := part.mul(part).right(scale)
	var sum limbs
	var terms uint64
	for len(part) > 0 {
		term, _ := part.divideWord(2*terms + 1)
		sum = sum.add(term)
		part = part.mul(square).right(scale)
		terms++
	}
	// The square is too small by less than 5/3. So is each power by less than 2: by a ninth of the error of the one ahead,
	// by at most 1/3 of that of the square, and by 1 for rounding. Each term is then too small by less than 3, and those
	// behind the last one are less than 3 together.
	return Band{binary(false, sum, scale), binary(false, sum.add(word(3*terms+3)), scale)}
}
