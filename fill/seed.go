package fill

import "fluxmast/api"

// maxPick is the greatest number below which Pick chooses.
const maxPick = 1 << 20

// Draw returns the next state of the generator.
func Draw(state uint64) uint64 {
	return state*6364136223846793005 + 1442695040888963407
}

// Pick returns a number below n by the state of the generator.
func Pick(state uint64, n int) (int, api.Errno) {
	if !between(n, 1, maxPick) {
		return 0, api.ErrArg
	}
	return pick(state, n), api.OK
}

// Sample returns numbers below n, as many as n, one after the other.
func Sample(seed uint64, n int) ([]int, uint64, api.Errno) {
	if !between(n, 1, api.MaxHours) {
		return nil, 0, api.ErrArg
	}
	l, last := sample(generator(seed), n)
	return l, last, api.OK
}

// generator returns a function that returns the next state, whenever it is called.
func generator(state uint64) func() uint64 {
	return func() uint64 {
		state = Draw(state)
		return state
	}
}

// pick takes just the first digits of a state, as the last ones come again after a few draws.
func pick(state uint64, n int) int {
	return int(state>>33) % n
}

// sample returns n numbers below n, and the last state of the generator.
func sample(next func() uint64, n int) (l []int, last uint64) {
	l = make([]int, n)
	for i := range l {
		last = next()
		l[i] = pick(last, n)
	}
	return l, last
}
