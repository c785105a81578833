package num

import (
	"math/bits"
	"slices"
)

// divide returns x/y, rounded down, and the rest; y is not 0.
func (x limbs) divide(y limbs) (limbs, limbs) {
	shift := y.zeros()
	switch {
	case x.compare(y) < 0:
		return nil, slices.Clone(x)
	case shift == y.length()-1:
		return x.right(shift), x.low(shift)
	case len(y) == 1:
		quotient, rest := x.divideWord(y[0])
		return quotient, word(rest)
	}
	return x.divideLong(y)
}

// over returns x/y, rounded down.
func (x limbs) over(y limbs) limbs {
	quotient, _ := x.divide(y)
	return quotient
}

func (x limbs) divideWord(d uint64) (limbs, uint64) {
	quotient := make(limbs, len(x))
	var rest uint64
	for i := len(x) - 1; i >= 0; i-- {
		quotient[i], rest = bits.Div64(rest, x[i], d)
	}
	return quotient.trim(), rest
}

// divideLong divides by a y of at least two digits, which is not above x. Both are shifted, so that the first digit of
// y is large, and a digit of the quotient that is guessed from first digits is hardly ever wrong.
func (x limbs) divideLong(y limbs) (limbs, limbs) {
	shift := bits.LeadingZeros64(y[len(y)-1])
	divisor, n := y.left(shift), len(y)
	rest := make(limbs, len(x)+1)
	copy(rest, x.left(shift))
	quotient := make(limbs, len(x)-n+1)
	for i := len(x) - n; i >= 0; i-- {
		quotient[i] = rest[i : i+n+1].takeMultiple(divisor)
	}
	return quotient.trim(), rest.trim().right(shift)
}

// takeMultiple takes from the digits of x the greatest multiple of y that is not above it, and returns which one it is.
// x has one digit more than y, and is less than 2^64 y.
func (x limbs) takeMultiple(y limbs) uint64 {
	n := len(y)
	times := guess(x[n], x[n-1], x[n-2], y[n-1], y[n-2])
	borrow := x[:n].loseTimes(y, times)
	high, short := bits.Sub64(x[n], borrow, 0)
	for short > 0 { // the guess was too great
		times--
		var carry, c uint64
		for i, digit := range y {
			x[i], carry = bits.Add64(x[i], digit, carry)
		}
		high, c = bits.Add64(high, carry, 0)
		short -= c
	}
	x[n] = high
	return times
}

// guess returns a digit of a quotient, or one too great by at most 2, from the first three digits of what is divided
// and the first two of the divisor.
func guess(x2, x1, x0, y1, y0 uint64) uint64 {
	if x2 >= y1 {
		return 1<<64 - 1
	}
	digit, rest := bits.Div64(x2, x1, y1)
	high, low := bits.Mul64(digit, y0)
	for high > rest || high == rest && low > x0 {
		digit--
		var borrow, carry uint64
		low, borrow = bits.Sub64(low, y0, 0)
		high -= borrow
		rest, carry = bits.Add64(rest, y1, 0)
		if carry > 0 {
			break
		}
	}
	return digit
}

// common returns the greatest common divisor.
func (x limbs) common(y limbs) limbs {
	switch {
	case len(x) == 0:
		return slices.Clone(y)
	case len(y) == 0:
		return slices.Clone(x)
	case x.isOne() || y.isOne():
		return limbs{1}
	}
	// Without factors 2 the powers of 2, which are most denominators, are 1, and are done with at once.
	twos := min(x.zeros(), y.zeros())
	x, y = x.right(x.zeros()), y.right(y.zeros())
	if x.compare(y) < 0 {
		x, y = y, x
	}
	var spare, spare2 limbs
	for len(y) > 1 {
		place := x.length() - 64
		first, second := simulate(x.window(place), y.window(place))
		if first.y == 0 {
			_, rest := x.divide(y)
			x, y = y, rest
			continue
		}
		greater, lesser := spare.distance(x, y, first), spare2.distance(x, y, second)
		x, y, spare, spare2 = greater, lesser, x, y
	}
	if len(y) == 0 {
		return x.left(twos)
	}
	_, rest := x.divideWord(y[0])
	return word(commonWord(y[0], rest)).left(twos)
}

func commonWord(x, y uint64) uint64 {
	for y > 0 {
		x, y = y, x%y
	}
	return x
}

// multiples says how often two numbers are taken.
type multiples struct{ x, y uint64 }

// simulate takes the steps of Euclid's algorithm that all numbers with the first digits x and y have in common, and
// returns of which multiples the distances are the two numbers behind them; the first y is 0 if there are no such steps.
func simulate(x, y uint64) (multiples, multiples) {
	var before multiples
	now, next := multiples{1, 0}, multiples{0, 1}
	// Collins: as long as this holds, the digits behind those of x and y do not change the quotient ahead of the last.
	for y >= next.y && x-y >= now.y+next.y {
		quotient, rest := x/y, x%y
		x, y = y, rest
		before, now, next = now, next, multiples{now.x + quotient*next.x, now.y + quotient*next.y}
	}
	return before, now
}

// distance returns the absolute value of the difference of both multiples, in the memory of d as far as it goes; x has
// as many limbs as y, or more.
func (d limbs) distance(x, y limbs, m multiples) limbs {
	d = slices.Grow(d[:0], len(x)+1)[:len(x)+1]
	clear(d)
	d[len(x)] = d[:len(x)].gainTimes(x, m.x)
	borrow := d[:len(y)].loseTimes(y, m.y)
	for i := len(y); i < len(d); i++ {
		d[i], borrow = bits.Sub64(d[i], borrow, 0)
	}
	if borrow > 0 { // the second multiple is greater, and the digits are those of the difference and 2^(64 len(d))
		borrow = 0
		for i := range d {
			d[i], borrow = bits.Sub64(0, d[i], borrow)
		}
	}
	return d.trim()
}

// root returns the greatest number whose square is not above x. Each step of Newton's doubles the number of digits that
// are right, so that it is taken with just as many digits of x.
func (x limbs) root() limbs {
	if len(x) == 0 {
		return nil
	}
	most := (x.length() - 1) / 2
	near, has := limbs{1}, 0
	for s := bits.Len(uint(most)) - 1; s >= 0; s-- {
		had := has
		has = most >> s
		near = near.left(has - had - 1).add(x.right(2*most - has - had + 1).over(near))
	}
	if near.mul(near).compare(x) > 0 {
		near = near.sub(limbs{1})
	}
	return near
}
