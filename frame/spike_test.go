package frame

import (
	"math"
	"math/big"
	"math/rand"
	"slices"
	"testing"

	"fluxmast/api"
)

// P2.1 and P2.6: medians and spikes.

func TestMedian(t *testing.T) {
	most, least := float32(math.MaxFloat32), float32(math.SmallestNonzeroFloat32)
	for _, c := range []struct {
		l    []float32
		want string
	}{
		{[]float32{4, 1, 3, 2}, "2"},
		{[]float32{4, 1, 3}, "3"},
		{[]float32{7}, "7"},
		{[]float32{7, -7}, "-7"},
		{[]float32{float32(math.Copysign(0, -1))}, "0"},
		{[]float32{float32(math.Copysign(0, -1)), 0, 0}, "0"},
		{[]float32{0.1, 0.1, 9}, "13421773/134217728"},
		{[]float32{2, 1, 2, 1, 2}, "2"},
		{[]float32{most, -most, least}, "1/713623846352979940529142984724747568191373312"},
		{[]float32{most, most, least}, "340282346638528859811704183484516925440"},
		{slices.Repeat([]float32{3, 5}, 32), "3"},
	} {
		got, e := Median(c.l)
		isCode(t, "Median", e, api.OK)
		if got.Text() != c.want {
			t.Errorf("Median of %v: %s, want %s", c.l, got.Text(), c.want)
		}
	}
}

func TestReadingErrors(t *testing.T) {
	nan, inf := float32(math.NaN()), float32(math.Inf(1))
	for _, c := range []struct {
		what string
		l    []float32
		want api.Errno
	}{
		{"no readings", nil, api.ErrSize},
		{"an empty list", []float32{}, api.ErrSize},
		{"65 readings", make([]float32, 65), api.ErrSize},
		{"65 readings that are infinite", slices.Repeat([]float32{inf}, 65), api.ErrSize},
		{"an infinite reading", []float32{1, inf}, api.ErrArg},
		{"an infinite reading below 0", []float32{-inf, 1}, api.ErrArg},
		{"what is not a number", []float32{1, 2, nan}, api.ErrArg},
	} {
		got, e := Median(c.l)
		isCode(t, "Median of "+c.what, e, c.want)
		if !got.Zero() {
			t.Errorf("Median of %s: a number with an error", c.what)
		}
		for _, width := range []int{1, 0} {
			spikes, e := Spikes(c.l, width, width)
			isCode(t, "Spikes of "+c.what, e, c.want)
			if len(spikes) > 0 {
				t.Errorf("Spikes of %s: a list with an error", c.what)
			}
		}
	}
}

func TestSpikes(t *testing.T) {
	most := float32(math.MaxFloat32)
	for _, c := range []struct {
		l            []float32
		width, times int
		want         []bool
	}{
		{[]float32{1, 1, 9, 1, 2}, 2, 3, []bool{false, false, true, false, false}},
		{[]float32{1, 1, 9, 1, 2}, 64, 1000, []bool{false, false, true, false, true}},
		{[]float32{5}, 1, 1, []bool{false}},
		{[]float32{5, 9}, 1, 1, []bool{false, true}}, // the lesser one is the median, and the differences are 0 and 4
		{[]float32{9, 5}, 1, 1, []bool{true, false}},
		// The middle one has 0, 2, 8 about it: the median 2, and the differences 0, 2, 6 with the median 2.
		{[]float32{0, 8, 2}, 1, 3, []bool{false, false, false}},
		{[]float32{0, 8, 2}, 1, 2, []bool{false, true, false}},
		{[]float32{3, 3, 3, 3}, 2, 1, []bool{false, false, false, false}},
		{[]float32{most, -most, most, -most, most}, 64, 1, []bool{false, true, false, true, false}},
		{[]float32{0, 0, math.SmallestNonzeroFloat32, 0, 0}, 1, 1000, []bool{false, false, true, false, false}},
	} {
		got, e := Spikes(c.l, c.width, c.times)
		isCode(t, "Spikes", e, api.OK)
		if !slices.Equal(got, c.want) {
			t.Errorf("Spikes of %v with %d and %d: %v, want %v", c.l, c.width, c.times, got, c.want)
		}
	}
}

func TestSpikesErrors(t *testing.T) {
	for _, c := range []struct {
		width, times int
		want         api.Errno
	}{
		{1, 1, api.OK}, {64, 1000, api.OK}, {0, 1, api.ErrArg}, {-1, 1, api.ErrArg}, {65, 1, api.ErrArg}, {1, 0, api.ErrArg}, {1, 1001, api.ErrArg},
		{math.MaxInt, 1, api.ErrArg}, {math.MinInt, 1, api.ErrArg}, {1, math.MaxInt, api.ErrArg}, {1, math.MinInt, api.ErrArg},
	} {
		got, e := Spikes([]float32{1, 2}, c.width, c.times)
		isCode(t, "Spikes", e, c.want)
		if c.want != api.OK && len(got) > 0 {
			t.Error("Spikes: a list with an error")
		}
	}
}

// slowMedian is the number with (n - 1)/2 others ahead of it.
func slowMedian(l []*big.Rat) *big.Rat {
	l = slices.Clone(l)
	for range (len(l) - 1) / 2 {
		least := slices.IndexFunc(l, func(x *big.Rat) bool {
			return !slices.ContainsFunc(l, func(y *big.Rat) bool { return y.Cmp(x) < 0 })
		})
		l = slices.Delete(l, least, least+1)
	}
	return slices.MinFunc(l, (*big.Rat).Cmp)
}

func slowSpikes(l []float32, width, times int) []bool {
	spikes := make([]bool, len(l))
	away := func(x float32, m *big.Rat) *big.Rat {
		d := new(big.Rat).SetFloat64(float64(x))
		return d.Abs(d.Sub(d, m))
	}
	for i, x := range l {
		var near, differences []*big.Rat
		for k, y := range l {
			if k-i <= width && i-k <= width {
				near = append(near, new(big.Rat).SetFloat64(float64(y)))
			}
		}
		m := slowMedian(near)
		for k, y := range l {
			if k-i <= width && i-k <= width {
				differences = append(differences, away(y, m))
			}
		}
		limit := slowMedian(differences)
		spikes[i] = away(x, m).Cmp(limit.Mul(limit, big.NewRat(int64(times), 1))) > 0
	}
	return spikes
}

func randomReadings(r *rand.Rand) []float32 {
	l := make([]float32, 1+r.Intn(14))
	for i := range l {
		switch l[i] = float32(r.Intn(6)); r.Intn(8) {
		case 0:
			l[i] = float32(r.NormFloat64())
		case 1:
			l[i] = -float32(r.ExpFloat64())
		}
	}
	return l
}

func TestSpikesOfReadings(t *testing.T) {
	r := seeded()
	for range 500 {
		l, width, times := randomReadings(r), 1+r.Intn(8), 1+r.Intn(4)
		got, e := Spikes(l, width, times)
		isCode(t, "Spikes", e, api.OK)
		if want := slowSpikes(l, width, times); !slices.Equal(got, want) {
			t.Fatalf("Spikes of %v with %d and %d: %v, want %v", l, width, times, got, want)
		}
		scaled := slices.Clone(l)
		factor := float32(math.Ldexp(1, r.Intn(120)-60))
		for i := range scaled {
			scaled[i] *= factor
		}
		same, e := Spikes(scaled, width, times)
		isCode(t, "Spikes", e, api.OK)
		if !slices.Equal(got, same) {
			t.Fatalf("Spikes of %v times %v: %v, want %v", l, factor, same, got)
		}
		fewer, e := Spikes(l, width, times+1+r.Intn(5))
		isCode(t, "Spikes", e, api.OK)
		for i, spike := range fewer {
			if spike && !got[i] {
				t.Fatalf("Spikes of %v: with greater times %d is one more", l, i)
			}
		}
	}
}

func TestEqualReadings(t *testing.T) {
	for _, x := range []float32{0, 0.1, -7, math.MaxFloat32, math.SmallestNonzeroFloat32} {
		for _, width := range []int{1, 5, 64} {
			got, e := Spikes(slices.Repeat([]float32{x}, 64), width, 1)
			isCode(t, "Spikes", e, api.OK)
			if len(got) != 64 || slices.Contains(got, true) {
				t.Errorf("Spikes of readings that are all %v: %v", x, got)
			}
		}
	}
}

func TestReadingsStay(t *testing.T) {
	l, same := behind(t, []float32{3, 9, 1, 2}, 7)
	_, _ = Median(l)
	_, _ = Spikes(l, 1, 1)
	same()
}
