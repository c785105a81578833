package frame

import (
	"math"
	"math/rand"
	"testing"

	"fluxmast/api"
)

// The numbers of the tests come from a fixed seed.

func seeded() *rand.Rand {
	return rand.New(rand.NewSource(1))
}

func isCode(t testing.TB, what string, got, want api.Errno) {
	t.Helper()
	if got != want {
		t.Errorf("%s: error %d, want %d", what, got, want)
	}
}

// seal is the block of a frame that has no error.
func seal(t testing.TB, f Frame) Block {
	t.Helper()
	b, e := Seal(f)
	if e != api.OK {
		t.Fatalf("Seal %v: error %d", f, e)
	}
	return b
}

// numbered is the block of the life 3 of the logger 2 of the station 1 with a number and a value.
func numbered(t testing.TB, number int, value float32) Block {
	t.Helper()
	return seal(t, Frame{Station: 1, Logger: 2, Life: 3, Number: number, Clock: 5, Values: [4]float32{value}})
}

// many is as many blocks, ascending, from a number on.
func many(t testing.TB, from, count int) []Block {
	t.Helper()
	var l []Block
	for i := range count {
		l = append(l, numbered(t, from+i, 0))
	}
	return l
}

func gap(life, from, to int) api.Gap {
	return api.Gap{Life: life, From: from, To: to}
}

// spoilt is a block whose digest does not fit.
func spoilt(b Block) Block {
	b[39] ^= 1
	return b
}

// unsealed is a block with the byte 1 at 14, which no frame has, and a digest that fits.
func unsealed(b Block) Block {
	b[14] = 1
	return digested(b)
}

// digested is a block with the digest that fits.
func digested(b Block) Block {
	h := Digest(11, b[:32])
	for i := range 8 {
		b[32+i] = byte(h >> (8 * i))
	}
	return b
}

// extreme is a number that is likely to be just inside or outside of a limit.
func extreme(r *rand.Rand) int {
	limits := []int{
		0, 1, 2, 3, 7, 8, 16, 64, 255, 256, 1000, 65535, 65536, 100000, 1000000, 1 << 30, 1 << 32, 1 << 40, math.MaxInt, math.MinInt, math.MaxInt / 2,
	}
	n := limits[r.Intn(len(limits))] + r.Intn(3) - 1
	if r.Intn(6) == 0 {
		return -n
	}
	return n
}

// behind is l in memory that goes on behind its end, with a function that tests that nothing there was changed.
func behind[T comparable](t testing.TB, l []T, mark T) ([]T, func()) {
	t.Helper()
	memory := append(append([]T{}, l...), mark, mark)
	before := append([]T{}, memory...)
	return memory[:len(l)], func() {
		t.Helper()
		for i, x := range memory {
			if x != before[i] {
				t.Errorf("the argument's element %d was changed", i)
			}
		}
	}
}
