package num

import (
	"cmp"
	"math/bits"
	"slices"
)

// limbs is a whole number that is not below 0: its digits to the base 2^64, the least one first, without zeros behind
// the greatest one. No method changes its number or an argument, unless it says so, and each result is new memory.
type limbs []uint64

// A product of numbers with fewer limbs than this is faster digit by digit than by halves.
const halvesFrom = 40

func word(n uint64) limbs {
	if n == 0 {
		return nil
	}
	return limbs{n}
}

// power returns 2^n.
func power(n int) limbs {
	x := make(limbs, n/64+1)
	x[n/64] = 1 << (n % 64)
	return x
}

// trim returns x without zeros behind the greatest digit, in the memory of x.
func (x limbs) trim() limbs {
	for len(x) > 0 && x[len(x)-1] == 0 {
		x = x[:len(x)-1]
	}
	return x
}

func (x limbs) isOne() bool {
	return len(x) == 1 && x[0] == 1
}

func (x limbs) compare(y limbs) int {
	if len(x) != len(y) {
		return cmp.Compare(len(x), len(y))
	}
	for i := len(x) - 1; i >= 0; i-- {
		if x[i] != y[i] {
			return cmp.Compare(x[i], y[i])
		}
	}
	return 0
}

// length returns the number of binary digits.
func (x limbs) length() int {
	if len(x) == 0 {
		return 0
	}
	return 64*len(x) - bits.LeadingZeros64(x[len(x)-1])
}

// zeros returns the number of binary zeros at the end; 0 for the number 0.
func (x limbs) zeros() int {
	for i, digit := range x {
		if digit != 0 {
			return 64*i + bits.TrailingZeros64(digit)
		}
	}
	return 0
}

// window returns the 64 binary digits of x from the place at on.
func (x limbs) window(at int) uint64 {
	i, shift := at/64, at%64
	var low, high uint64
	if i < len(x) {
		low = x[i]
	}
	if i+1 < len(x) {
		high = x[i+1]
	}
	return low>>shift | high<<(64-shift)
}

func (x limbs) left(n int) limbs {
	if len(x) == 0 {
		return nil
	}
	shifted := make(limbs, len(x)+n/64+1)
	for i, digit := range x {
		shifted[i+n/64] |= digit << (n % 64)
		shifted[i+n/64+1] = digit >> (64 - n%64)
	}
	return shifted.trim()
}

func (x limbs) right(n int) limbs {
	if n >= x.length() {
		return nil
	}
	shifted := make(limbs, len(x)-n/64)
	for i := range shifted {
		shifted[i] = x.window(64*i + n)
	}
	return shifted.trim()
}

// low returns the last n binary digits.
func (x limbs) low(n int) limbs {
	if n >= x.length() {
		return slices.Clone(x)
	}
	rest := slices.Clone(x[:n/64+1])
	rest[n/64] &= 1<<(n%64) - 1
	return rest.trim()
}

func (x limbs) add(y limbs) limbs {
	if len(x) < len(y) {
		x, y = y, x
	}
	sum := make(limbs, len(x)+1)
	copy(sum, x)
	sum.gain(y)
	return sum.trim()
}

// sub returns x - y; y is not above x.
func (x limbs) sub(y limbs) limbs {
	rest := slices.Clone(x)
	rest.lose(y)
	return rest.trim()
}

// gain adds y to the digits of x, where the sum has its place.
func (x limbs) gain(y limbs) {
	var carry uint64
	for i, digit := range y {
		x[i], carry = bits.Add64(x[i], digit, carry)
	}
	for i := len(y); carry > 0; i++ {
		x[i], carry = bits.Add64(x[i], 0, carry)
	}
}

// lose takes y from the digits of x, which are not less.
func (x limbs) lose(y limbs) {
	var borrow uint64
	for i, digit := range y {
		x[i], borrow = bits.Sub64(x[i], digit, borrow)
	}
	for i := len(y); borrow > 0; i++ {
		x[i], borrow = bits.Sub64(x[i], 0, borrow)
	}
}

// gainTimes adds y times factor to the digits of x, which are as many as those of y, and returns what is carried on.
func (x limbs) gainTimes(y limbs, factor uint64) uint64 {
	var carry uint64
	for i, digit := range y {
		high, low := bits.Mul64(digit, factor)
		var c uint64
		low, c = bits.Add64(low, carry, 0)
		high += c
		x[i], c = bits.Add64(x[i], low, 0)
		carry = high + c
	}
	return carry
}

// loseTimes takes y times factor from the digits of x, which are as many as those of y, and returns what is borrowed.
func (x limbs) loseTimes(y limbs, factor uint64) uint64 {
	var borrow uint64
	for i, digit := range y {
		high, low := bits.Mul64(digit, factor)
		var c uint64
		low, c = bits.Add64(low, borrow, 0)
		high += c
		x[i], c = bits.Sub64(x[i], low, 0)
		borrow = high + c
	}
	return borrow
}

func (x limbs) mul(y limbs) limbs {
	if len(x) < len(y) {
		x, y = y, x
	}
	if len(y) >= halvesFrom {
		return x.mulHalves(y)
	}
	product := make(limbs, len(x)+len(y))
	for i, digit := range y {
		product[i+len(x)] = product[i:i+len(x)].gainTimes(x, digit)
	}
	return product.trim()
}

// mulHalves multiplies by three products of halves (two, if y is short) instead of four; y is not longer than x.
func (x limbs) mulHalves(y limbs) limbs {
	half := (len(x) + 1) / 2
	product := make(limbs, len(x)+len(y))
	x0, x1 := x[:half].trim(), x[half:]
	if len(y) <= half {
		product.gain(x0.mul(y))
		product[half:].gain(x1.mul(y))
		return product.trim()
	}
	y0, y1 := y[:half].trim(), y[half:]
	lower, upper := x0.mul(y0), x1.mul(y1)
	middle := x0.add(x1).mul(y0.add(y1))
	middle.lose(lower)
	middle.lose(upper)
	product.gain(lower)
	product[half:].gain(middle.trim())
	product[2*half:].gain(upper)
	return product.trim()
}
