package frame

import (
	"bytes"
	"math"
	"math/big"
	"math/rand"
	"testing"

	"fluxmast/api"
)

// P2.1 and P2.2: digests and blocks.

// slowDigest is Digest by numbers of any size.
func slowDigest(start uint64, b []byte) uint64 {
	h := new(big.Int).SetUint64(start)
	word := new(big.Int).Lsh(big.NewInt(1), 64)
	for _, x := range b {
		h.Xor(h, big.NewInt(int64(x)))
		h.Mul(h, big.NewInt(2685821657736338717)).Mod(h, word)
		h.Lsh(h, 29)
		over, rest := new(big.Int).DivMod(h, word, new(big.Int))
		h.Add(over, rest)
	}
	return h.Uint64()
}

func TestDigest(t *testing.T) {
	if Digest(11, nil) != 11 || Digest(11, []byte{}) != 11 || Digest(math.MaxUint64, nil) != math.MaxUint64 {
		t.Error("Digest of no bytes is not the start")
	}
	r := seeded()
	for range 300 {
		start, l := r.Uint64(), make([]byte, r.Intn(50))
		r.Read(l)
		if got, want := Digest(start, l), slowDigest(start, l); got != want {
			t.Fatalf("Digest(%d, %v) is %d, want %d", start, l, got, want)
		}
		cut := r.Intn(len(l) + 1)
		if Digest(Digest(start, l[:cut]), l[cut:]) != Digest(start, l) {
			t.Fatal("Digest of two lists is not that of the second one from that of the first one on")
		}
	}
}

func TestSealBytes(t *testing.T) {
	nan, inf := float32(math.NaN()), float32(math.Inf(1))
	for _, c := range []struct {
		f    Frame
		want []byte
	}{
		{Frame{}, make([]byte, 32)},
		{Frame{1, 2, 3, 4, 5, [4]float32{}}, append([]byte{1, 0, 2, 3, 4, 0, 0, 0, 5, 0}, make([]byte, 22)...)},
		{
			Frame{65535, 255, 254, 1<<32 - 1, 1 << 40, [4]float32{1, inf, -inf, nan}},
			[]byte{255, 255, 255, 254, 255, 255, 255, 255, 0, 0, 0, 0, 0, 1, 0, 0, 0, 0, 0x80, 0x3f, 0, 0, 0x80, 0x7f, 0, 0, 0x80, 0xff, 0, 0, 0xc0, 0x7f},
		},
		{
			Frame{0x1234, 0x56, 0x78, 0x9abcdef0, 0x9988776655, [4]float32{math.SmallestNonzeroFloat32, float32(math.Copysign(0, -1)), -2, math.MaxFloat32}},
			[]byte{0x34, 0x12, 0x56, 0x78, 0xf0, 0xde, 0xbc, 0x9a, 0x55, 0x66, 0x77, 0x88, 0x99, 0, 0, 0, 1, 0, 0, 0, 0, 0, 0, 0x80, 0, 0, 0, 0xc0, 0xff, 0xff, 0x7f, 0x7f},
		},
	} {
		b := seal(t, c.f)
		if !bytes.Equal(b[:32], c.want) {
			t.Errorf("Seal of %v: %x, want %x", c.f, b[:32], c.want)
		}
		h := slowDigest(11, c.want)
		for i, x := range b[32:] {
			if x != byte(h>>(8*i)) {
				t.Errorf("Seal of %v: byte %d of the digest is %d", c.f, i, x)
			}
		}
	}
}

func TestSealNotNumbers(t *testing.T) {
	want := seal(t, Frame{Values: [4]float32{math.Float32frombits(0x7fc00000)}})
	for _, bits := range []uint32{0x7f800001, 0x7fc00001, 0x7fffffff, 0xff800001, 0xffc00000, 0xffffffff} {
		if seal(t, Frame{Values: [4]float32{math.Float32frombits(bits)}}) != want {
			t.Errorf("Seal of the value %x has other bits than 7fc00000", bits)
		}
	}
}

func TestSealErrors(t *testing.T) {
	for _, f := range []Frame{
		{Station: -1}, {Station: 65536}, {Station: math.MaxInt}, {Logger: -1}, {Logger: 256}, {Life: -1}, {Life: 256}, {Number: -1}, {Number: 1 << 32},
		{Number: math.MinInt}, {Clock: -1}, {Clock: 1<<40 + 1}, {Clock: math.MaxInt}, {Station: 1, Life: 1 << 32},
	} {
		b, e := Seal(f)
		isCode(t, "Seal of an invalid frame", e, api.ErrArg)
		if b != (Block{}) {
			t.Errorf("Seal of %v: a block with an error", f)
		}
	}
}

func randomFrame(r *rand.Rand) Frame {
	f := Frame{r.Intn(1 << 16), r.Intn(1 << 8), r.Intn(1 << 8), r.Intn(1 << 32), r.Intn(1<<40 + 1), [4]float32{}}
	for i := range f.Values {
		f.Values[i] = math.Float32frombits(r.Uint32())
		if r.Intn(5) == 0 {
			f.Values[i] = float32(math.NaN())
		}
	}
	return f
}

// sameFrame compares values by their bits, but for those that are not numbers.
func sameFrame(a, b Frame) bool {
	for i, x := range a.Values {
		y := b.Values[i]
		if (x == x || y == y) && math.Float32bits(x) != math.Float32bits(y) {
			return false
		}
	}
	a.Values, b.Values = [4]float32{}, [4]float32{}
	return a == b
}

func TestOpenOfSeal(t *testing.T) {
	r := seeded()
	for range 2000 {
		f := randomFrame(r)
		got, e := Open(seal(t, f))
		if e != api.OK || !sameFrame(got, f) {
			t.Fatalf("Open of Seal of %v: %v, error %d", f, got, e)
		}
	}
}

func TestOpenOneByteReplaced(t *testing.T) {
	r := seeded()
	for range 5 {
		b := seal(t, randomFrame(r))
		for i := range b {
			for x := range 256 {
				c := b
				c[i] = byte(x)
				if c == b {
					continue
				}
				if f, e := Open(c); e != api.ErrSum || f != (Frame{}) {
					t.Fatalf("Open with byte %d replaced by %d: %v, error %d", i, x, f, e)
				}
			}
		}
	}
}

func TestOpenForm(t *testing.T) {
	good := seal(t, Frame{1, 2, 3, 4, 1 << 40, [4]float32{1, 2, float32(math.NaN()), 4}})
	for _, c := range []struct {
		at   int
		byte byte
	}{
		{14, 1}, {14, 128}, {15, 1}, {15, 255}, {8, 1}, {12, 1}, {13, 2}, {13, 255}, {24, 1}, {25, 1}, {26, 0xc1}, {26, 0xff}, {27, 0xff},
	} {
		b := good
		b[c.at] = c.byte
		f, e := Open(b)
		isCode(t, "Open with a digest that does not fit", e, api.ErrSum)
		if f != (Frame{}) {
			t.Error("a frame with an error")
		}
		f, e = Open(digested(b))
		isCode(t, "Open of what is no frame", e, api.ErrForm)
		if f != (Frame{}) {
			t.Error("a frame with an error")
		}
	}
	// the signalling value that is not a number, and a clock that is just valid
	b := good
	b[24], b[26] = 1, 0x80
	_, e := Open(digested(b))
	isCode(t, "Open of another value that is not a number", e, api.ErrForm)
	b = good
	b[13], b[12] = 0, 255
	f, e := Open(digested(b))
	isCode(t, "Open of another clock", e, api.OK)
	if f.Clock != 255<<32 {
		t.Errorf("Open of another clock: %d", f.Clock)
	}
	_, e = Open(Block{})
	isCode(t, "Open of zeros", e, api.ErrSum)
}

// What Open takes for a frame is what Seal returns for it.
func TestSealOfOpen(t *testing.T) {
	r := seeded()
	for range 3000 {
		var b Block
		r.Read(b[:])
		if r.Intn(4) > 0 {
			b[13], b[14], b[15] = byte(r.Intn(3)), byte(r.Intn(6)/5), 0
		}
		if r.Intn(3) == 0 {
			b[18], b[19] = 0xc0, 0x7f
		}
		b = digested(b)
		f, e := Open(b)
		if e == api.OK && seal(t, f) != b {
			t.Fatalf("Open of %x is a frame with another block", b)
		}
		nan := func(i int) bool {
			x := b[16+4*i : 20+4*i]
			return x[3]&0x7f == 0x7f && x[2]&0x80 != 0 && (x[2]&0x7f != 0 || x[1] != 0 || x[0] != 0) && !bytes.Equal(x, []byte{0, 0, 0xc0, 0x7f})
		}
		late := b[13] > 1 || b[13] == 1 && !bytes.Equal(b[8:13], make([]byte, 5))
		invalid := b[14] != 0 || b[15] != 0 || late || nan(0) || nan(1) || nan(2) || nan(3)
		if want := map[bool]api.Errno{false: api.OK, true: api.ErrForm}[invalid]; e != want {
			t.Fatalf("Open of %x: error %d, want %d", b, e, want)
		}
	}
}
