package fill_test

import (
	"math"
	"math/big"
	"testing"

	"fluxmast/api"
	"fluxmast/fill"
)

// P8.1 and P8.2: seeds.

// slowDraw calculates without a wraparound.
func slowDraw(state uint64) uint64 {
	x := new(big.Int).SetUint64(state)
	x.Mul(x, big.NewInt(6364136223846793005))
	x.Add(x, big.NewInt(1442695040888963407))
	return x.Mod(x, power2(64)).Uint64()
}

func slowPick(state uint64, n int) int {
	x := new(big.Int).SetUint64(state)
	x.Quo(x, power2(33))
	return int(x.Mod(x, big.NewInt(int64(n))).Int64())
}

func slowSample(seed uint64, n int) ([]int, uint64) {
	var l []int
	for len(l) < n {
		seed = slowDraw(seed)
		l = append(l, slowPick(seed, n))
	}
	return l, seed
}

func TestDraw(t *testing.T) {
	for _, c := range []struct{ state, want uint64 }{
		{0, 1442695040888963407},
		{1, 7806831264735756412},
		{2, 14170967488582549417},
		{math.MaxUint64, 13525302890751722018},
	} {
		if got := fill.Draw(c.state); got != c.want {
			t.Errorf("Draw of %d: %d, want %d", c.state, got, c.want)
		}
	}
	r := seeded()
	for range 1000 {
		state := r.Uint64()
		isTrue(t, "Draw is as the model", fill.Draw(state) == slowDraw(state))
	}
}

func TestPick(t *testing.T) {
	for _, c := range []struct {
		state uint64
		n     int
		want  int
		code  api.Errno
	}{
		{1442695040888963407, 10, 7, api.OK},
		{1442695040888963407, 1 << 20, 167951807 % (1 << 20), api.OK},
		{1442695040888963407, 1, 0, api.OK},
		{0, 48, 0, api.OK},
		{1<<33 - 1, 48, 0, api.OK},
		{1 << 33, 48, 1, api.OK},
		{48<<33 - 1, 48, 47, api.OK},
		{48 << 33, 48, 0, api.OK},
		{math.MaxUint64, 1 << 20, 1<<20 - 1, api.OK},
		{math.MaxUint64, 1000, 647, api.OK},
		{math.MaxUint64, 1<<20 + 1, 0, api.ErrArg},
		{math.MaxUint64, 0, 0, api.ErrArg},
		{math.MaxUint64, -1, 0, api.ErrArg},
		{math.MaxUint64, math.MaxInt, 0, api.ErrArg},
		{math.MaxUint64, math.MinInt, 0, api.ErrArg},
	} {
		got, e := fill.Pick(c.state, c.n)
		isCode(t, "Pick", e, c.code)
		isInt(t, "Pick", got, c.want)
	}
	r := seeded()
	for range 1000 {
		state, n := r.Uint64(), 1+r.Intn(1<<(1+r.Intn(20)))
		isInt(t, "Pick", right[int](t, "Pick")(fill.Pick(state, n)), slowPick(state, n))
	}
}

func TestSample(t *testing.T) {
	l, state, e := fill.Sample(0, 1)
	isCode(t, "Sample", e, api.OK)
	isList(t, "Sample of 1", l, []int{0})
	isTrue(t, "one draw leads to the last state", state == 1442695040888963407)
	for _, n := range []int{0, -1, 49, 50, 1 << 20, math.MaxInt, math.MinInt} {
		l, state, e := fill.Sample(3, n)
		isCode(t, "Sample", e, api.ErrArg)
		isTrue(t, "Sample has zero values", len(l) == 0 && state == 0)
	}
	r := seeded()
	for n := 1; n <= 48; n++ {
		seed := r.Uint64()
		want, last := slowSample(seed, n)
		for range 2 { // twice, as nothing is kept
			l, state, e := fill.Sample(seed, n)
			isCode(t, "Sample", e, api.OK)
			isList(t, "Sample", l, want)
			isTrue(t, "the last state", state == last)
			for _, i := range l {
				isTrue(t, "Sample has numbers below n", 0 <= i && i < n)
			}
			scribble(l, -1)
		}
	}
}
