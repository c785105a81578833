package frame

import (
	"math"
	"math/rand"
	"slices"
	"testing"

	"fluxmast/api"
)

// P2.1, P2.3 and P2.4: records.

// ordered is blocks of which each one is above the one ahead, by each of the numbers of a key, and by a byte.
func ordered(t testing.TB) []Block {
	var l []Block
	for _, f := range []Frame{
		{Station: 0, Logger: 255, Life: 255, Number: 1<<32 - 1}, {Station: 1, Logger: 0, Life: 200}, {Station: 1, Logger: 1, Life: 0, Number: 500},
		{Station: 1, Logger: 1, Life: 1, Number: 255}, {Station: 1, Logger: 1, Life: 1, Number: 256}, {Station: 1, Logger: 1, Life: 1, Number: 1<<32 - 1},
		// The bytes decide for the same key, the first byte of a clock ahead of its second one.
		{Station: 2, Clock: 256}, {Station: 2, Clock: 1}, {Station: 2, Clock: 255},
		{Station: 255}, {Station: 256}, {Station: 511}, {Station: 512},
	} {
		l = append(l, seal(t, f))
	}
	return l
}

// isRecord tests a list of blocks, and that there is no error.
func isRecord(t testing.TB, what string, got []Block, e api.Errno, want []Block) {
	t.Helper()
	isCode(t, what, e, api.OK)
	if !slices.Equal(got, want) {
		t.Errorf("%s: %d blocks that are not the %d wanted", what, len(got), len(want))
	}
}

func TestCheckRecord(t *testing.T) {
	l := ordered(t)
	good := many(t, 0, 64)
	bad, odd := spoilt(l[0]), unsealed(l[1])
	for _, c := range []struct {
		what string
		l    []Block
		want api.Errno
	}{
		{"nothing", nil, api.OK},
		{"an empty record", []Block{}, api.OK},
		{"a block", l[:1], api.OK},
		{"ascending blocks", l, api.OK},
		{"64 blocks", good, api.OK},
		{"65 blocks", many(t, 0, 65), api.ErrSize},
		{"65 spoilt blocks", make([]Block, 65), api.ErrSize},
		{"a spoilt block", []Block{l[0], spoilt(l[1])}, api.ErrSum},
		{"a spoilt one ahead of one that is no frame", []Block{bad, odd}, api.ErrSum},
		{"one that is no frame ahead of a spoilt one", []Block{odd, bad}, api.ErrForm},
		{"a block twice", []Block{l[0], l[0]}, api.ErrOrder},
		{"a spoilt block behind blocks out of order", []Block{l[1], l[0], spoilt(l[2])}, api.ErrSum},
	} {
		isCode(t, "CheckRecord of "+c.what, CheckRecord(c.l), c.want)
	}
	for i := range l {
		for k := range l {
			want := api.ErrOrder
			if i < k {
				want = api.OK
			}
			isCode(t, "CheckRecord of two", CheckRecord([]Block{l[i], l[k]}), want)
		}
	}
}

func TestRecord(t *testing.T) {
	l := ordered(t)
	r := seeded()
	for range 200 {
		shuffled := slices.Concat(l, l[r.Intn(len(l)):])
		r.Shuffle(len(shuffled), func(i, k int) { shuffled[i], shuffled[k] = shuffled[k], shuffled[i] })
		got, e := Record(shuffled)
		isRecord(t, "Record", got, e, l)
	}
	got, e := Record(nil)
	isRecord(t, "Record of nothing", got, e, nil)
	got, e = Record(slices.Repeat(l[:1], 64))
	isRecord(t, "Record of one block 64 times", got, e, l[:1])
	for _, c := range []struct {
		l    []Block
		want api.Errno
	}{
		{slices.Repeat(l[:1], 65), api.ErrSize}, {[]Block{l[1], spoilt(l[0])}, api.ErrSum}, {[]Block{l[1], unsealed(l[1]), spoilt(l[0])}, api.ErrForm},
	} {
		got, e := Record(c.l)
		isCode(t, "Record", e, c.want)
		if len(got) > 0 {
			t.Error("Record: blocks with an error")
		}
	}
}

func TestJoinAndCommon(t *testing.T) {
	n := many(t, 0, 5)
	a, b := []Block{n[0], n[1]}, []Block{n[1], n[3]}
	got, e := Join(a, b)
	isRecord(t, "Join", got, e, []Block{n[0], n[1], n[3]})
	common, e := Common(a, b)
	if isCode(t, "Common", e, api.OK); common != 1 {
		t.Errorf("Common: %d", common)
	}
	got, e = Join(nil, nil)
	isRecord(t, "Join of nothing", got, e, nil)
	other := numbered(t, 1, 2)
	got, e = Join([]Block{n[1]}, []Block{other})
	isRecord(t, "Join of blocks that clash", got, e, []Block{n[1], other})
	common, e = Common([]Block{n[1]}, []Block{other})
	if isCode(t, "Common", e, api.OK); common != 0 {
		t.Errorf("Common of blocks that clash: %d", common)
	}
}

func TestJoinAndCommonErrors(t *testing.T) {
	n := many(t, 0, 66)
	bad, odd, back := []Block{spoilt(n[0])}, []Block{unsealed(n[0])}, []Block{n[1], n[0]}
	for _, c := range []struct {
		what         string
		a, b         []Block
		join, common api.Errno
	}{
		{"64 blocks in all", n[:40], n[30:64], api.OK, api.OK},
		{"65 blocks in all", n[:40], n[40:65], api.ErrFull, api.OK},
		{"128 blocks in all", n[:64], many(t, 100, 64), api.ErrFull, api.OK},
		{"the same 64 blocks", n[:64], n[:64], api.OK, api.OK},
		{"65 blocks at first", n[:65], bad, api.ErrSize, api.ErrSize},
		{"65 blocks then", n[:1], n[:65], api.ErrSize, api.ErrSize},
		{"errors of both", odd, bad, api.ErrForm, api.ErrForm},
		{"errors of both, turned", bad, odd, api.ErrSum, api.ErrSum},
		{"blocks out of order at first", back, bad, api.ErrOrder, api.ErrOrder},
		{"blocks out of order then", n[:64], back, api.ErrOrder, api.ErrOrder},
	} {
		got, e := Join(c.a, c.b)
		isCode(t, "Join of "+c.what, e, c.join)
		if c.join != api.OK && len(got) > 0 {
			t.Errorf("Join of %s: blocks with an error", c.what)
		}
		common, e := Common(c.a, c.b)
		isCode(t, "Common of "+c.what, e, c.common)
		if c.common != api.OK && common != 0 {
			t.Errorf("Common of %s: %d with an error", c.what, common)
		}
	}
}

// randomRecord is a record of a few stations, loggers, lives and numbers, so that records have blocks in common, and
// blocks clash.
func randomRecord(t testing.TB, r *rand.Rand, most int) []Block {
	var l []Block
	for range r.Intn(most + 1) {
		f := Frame{Station: r.Intn(2) * 256, Logger: r.Intn(2), Life: r.Intn(2), Number: r.Intn(6), Clock: r.Intn(2)}
		l = append(l, seal(t, f))
	}
	l, e := Record(l)
	isCode(t, "Record", e, api.OK)
	return l
}

func TestJoinInAnyOrder(t *testing.T) {
	r := seeded()
	join := func(a, b []Block) []Block {
		l, e := Join(a, b)
		isCode(t, "Join", e, api.OK)
		isCode(t, "CheckRecord of Join", CheckRecord(l), api.OK)
		return l
	}
	for range 300 {
		a, b, c := randomRecord(t, r, 20), randomRecord(t, r, 20), randomRecord(t, r, 20)
		both := join(a, b)
		isRecord(t, "Join turned", join(b, a), api.OK, both)
		isRecord(t, "Join of a record and itself", join(a, a), api.OK, a)
		isRecord(t, "Join in another grouping", join(a, join(b, c)), api.OK, join(both, c))
		var want []Block
		shared := 0
		for _, x := range slices.Concat(a, b) {
			if !slices.Contains(want, x) {
				want = append(want, x)
			}
			if slices.Contains(a, x) && slices.Contains(b, x) {
				shared++
			}
		}
		common, e := Common(a, b)
		if isCode(t, "Common", e, api.OK); common != shared/2 || len(a)+len(b)-common != len(both) {
			t.Fatalf("Common: %d, want %d", common, shared/2)
		}
		if len(want) != len(both) {
			t.Fatalf("Join: %d blocks, want %d", len(both), len(want))
		}
		for _, x := range want {
			if !slices.Contains(both, x) {
				t.Fatal("Join: a block is not there")
			}
		}
	}
}

func TestClashes(t *testing.T) {
	a := many(t, 0, 4)
	for _, c := range []struct {
		l    []Block
		want []Key
	}{
		{nil, nil},
		{a, nil},
		{[]Block{a[0], a[1], numbered(t, 1, 2), a[2]}, []Key{{1, 2, 3, 1}}},
		{[]Block{a[0], numbered(t, 0, 1), a[1]}, []Key{{1, 2, 3, 0}}},
		{[]Block{a[2], a[3], numbered(t, 3, 1)}, []Key{{1, 2, 3, 3}}},
		{[]Block{a[0], numbered(t, 0, 1), numbered(t, 0, 2), a[1], a[2], numbered(t, 2, 2)}, []Key{{1, 2, 3, 0}, {1, 2, 3, 2}}},
		{[]Block{seal(t, Frame{Number: 7}), seal(t, Frame{Life: 1, Number: 7}), seal(t, Frame{Logger: 1, Number: 7}), seal(t, Frame{Station: 1, Number: 7})}, nil},
	} {
		l, e := Record(c.l)
		isCode(t, "Record", e, api.OK)
		got, e := Clashes(l)
		isCode(t, "Clashes", e, api.OK)
		if !slices.Equal(got, c.want) {
			t.Errorf("Clashes: %v, want %v", got, c.want)
		}
	}
	for _, c := range []struct {
		l    []Block
		want api.Errno
	}{
		{many(t, 0, 65), api.ErrSize}, {[]Block{a[1], a[0]}, api.ErrOrder}, {[]Block{a[0], a[0]}, api.ErrOrder}, {[]Block{spoilt(a[0])}, api.ErrSum},
	} {
		got, e := Clashes(c.l)
		isCode(t, "Clashes", e, c.want)
		if len(got) > 0 {
			t.Error("Clashes: keys with an error")
		}
	}
}

func TestMissing(t *testing.T) {
	l := []Block{numbered(t, 0, 0), numbered(t, 1, 0), numbered(t, 1, 1), numbered(t, 3, 0)}
	slices.SortFunc(l, compareBlocks)
	last := seal(t, Frame{Number: 1<<32 - 1})
	for _, c := range []struct {
		l     []Block
		lives []Life
		want  []api.Gap
	}{
		{l, nil, nil},
		{l, []Life{{1, 2, 3, 5}}, []api.Gap{gap(0, 2, 3), gap(0, 4, 5)}},
		{l, []Life{{1, 2, 3, 4}}, []api.Gap{gap(0, 2, 3)}},
		{nil, []Life{{1, 2, 3, 0}, {1, 2, 4, 3}}, []api.Gap{gap(1, 0, 3)}},
		{l, []Life{{0, 2, 3, 1}, {1, 1, 3, 2}, {1, 2, 2, 0}, {1, 2, 3, 4}, {1, 2, 4, 1}}, []api.Gap{gap(0, 0, 1), gap(1, 0, 2), gap(3, 2, 3), gap(4, 0, 1)}},
		{l[3:], []Life{{1, 2, 3, 1 << 32}}, []api.Gap{gap(0, 0, 3), gap(0, 4, 1<<32)}},
		{[]Block{last}, []Life{{0, 0, 0, 1 << 32}}, []api.Gap{gap(0, 0, 1<<32-1)}},
		{nil, []Life{{65535, 255, 255, 1}}, []api.Gap{gap(0, 0, 1)}},
	} {
		got, e := Missing(c.l, c.lives)
		isCode(t, "Missing", e, api.OK)
		if !slices.Equal(got, c.want) {
			t.Errorf("Missing of the lives %v: %v, want %v", c.lives, got, c.want)
		}
	}
}

func TestMissingErrors(t *testing.T) {
	l := many(t, 0, 4)
	var lives []Life
	for i := range 17 {
		lives = append(lives, Life{Station: i, Count: 1})
	}
	few := Life{1, 2, 3, 3}
	for _, c := range []struct {
		what  string
		l     []Block
		lives []Life
		want  api.Errno
	}{
		{"16 lives", l, lives[:16], api.OK},
		{"17 lives", l, lives, api.ErrSize},
		{"a record out of order", []Block{l[1], l[0]}, lives, api.ErrOrder},
		{"a spoilt block", []Block{spoilt(l[0])}, lives, api.ErrSum},
		{"a station below 0", l, []Life{{-1, 0, 0, 0}}, api.ErrArg},
		{"a station above 65535", l, []Life{{65536, 0, 0, 0}}, api.ErrArg},
		{"a logger below 0", l, []Life{{0, -1, 0, 0}}, api.ErrArg},
		{"a logger above 255", l, []Life{{0, 256, 0, 0}}, api.ErrArg},
		{"a life below 0", l, []Life{{0, 0, -1, 0}}, api.ErrArg},
		{"a life above 255", l, []Life{{0, 0, 256, 0}}, api.ErrArg},
		{"a count below 0", l, []Life{{0, 0, 0, -1}}, api.ErrArg},
		{"a count above 2^32", l, []Life{{0, 0, 0, 1<<32 + 1}}, api.ErrArg},
		{"a life twice", l, []Life{{0, 0, 0, 1}, {0, 0, 0, 2}}, api.ErrOrder},
		{"lives out of order", l, []Life{{0, 0, 1, 1}, {0, 0, 0, 2}}, api.ErrOrder},
		{"loggers out of order", l, []Life{{0, 1, 0, 1}, {0, 0, 1, 1}}, api.ErrOrder},
		{"stations out of order", l, []Life{{1, 0, 0, 1}, {0, 1, 1, 1}}, api.ErrOrder},
		{"a life that is out of order and invalid", l, []Life{{0, 0, 1, 1}, {0, 0, 0, -1}}, api.ErrArg},
		{"lives out of order ahead of an invalid one", l, []Life{{0, 0, 1, 1}, {0, 0, 0, 1}, {Count: -1}}, api.ErrOrder},
		{"a number that is not below the count", l, []Life{few}, api.ErrClash},
		{"a number that is not below the count, and an invalid life", l, []Life{few, {Count: -1}}, api.ErrArg},
		{"a number that is not below the count, and lives out of order", l, []Life{few, {}}, api.ErrOrder},
		{"a count of 0", l, []Life{{}, {1, 2, 3, 0}}, api.ErrClash},
	} {
		got, e := Missing(c.l, c.lives)
		isCode(t, "Missing with "+c.what, e, c.want)
		if c.want != api.OK && len(got) > 0 {
			t.Errorf("Missing with %s: gaps with an error", c.what)
		}
	}
}

// Each number below Count is in a block or in exactly one gap, gaps are as long as they can be, and with a block more
// they lie in those without it.
func TestGapsAreWhole(t *testing.T) {
	r := seeded()
	lives := []Life{{0, 0, 0, 6}, {0, 0, 1, 8}, {0, 1, 1, 7}, {256, 0, 0, 6}, {256, 1, 1, 9}}
	for range 300 {
		l := randomRecord(t, r, 50)
		got, e := Missing(l, lives)
		isCode(t, "Missing", e, api.OK)
		var want []api.Gap
		for i, life := range lives {
			open := false
			for number := range life.Count {
				there := slices.ContainsFunc(l, func(b Block) bool { return b.key() == Key{life.Station, life.Logger, life.Life, number} })
				switch {
				case there:
					open = false
				case open:
					want[len(want)-1].To++
				default:
					want, open = append(want, gap(i, number, number+1)), true
				}
			}
		}
		if !slices.Equal(got, want) {
			t.Fatalf("Missing: %v, want %v", got, want)
		}
		if len(l) == 0 {
			continue
		}
		at := r.Intn(len(l))
		less, e := Missing(slices.Delete(slices.Clone(l), at, at+1), lives)
		isCode(t, "Missing", e, api.OK)
		for _, g := range got {
			if !slices.ContainsFunc(less, func(h api.Gap) bool { return h.Life == g.Life && h.From <= g.From && g.To <= h.To }) {
				t.Fatalf("a block more: the gap %v does not lie in %v", g, less)
			}
		}
	}
}

func TestRecordMemory(t *testing.T) {
	mark := numbered(t, 99, 9)
	a, aSame := behind(t, many(t, 0, 3), mark)
	b, bSame := behind(t, many(t, 2, 3), mark)
	c, cSame := behind(t, []Block{a[2], a[0], a[0]}, mark)
	joined, _ := Join(a, b)
	alone, _ := Join(a, nil)
	other, _ := Join(nil, a)
	recorded, _ := Record(c)
	for _, l := range [][]Block{joined, alone, other, recorded} {
		for i := range l {
			l[i] = Block{}
		}
		_ = append(l, Block{})
	}
	aSame()
	bSame()
	cSame()
}

// P1: no call panics, and an error comes alone.
func TestAnyLives(t *testing.T) {
	r := seeded()
	for range 3000 {
		l := randomRecord(t, r, 10)
		if len(l) > 0 && r.Intn(4) == 0 {
			l[r.Intn(len(l))][r.Intn(40)] ^= byte(r.Intn(4))
		}
		var lives []Life
		for range r.Intn(4) {
			lives = append(lives, Life{extreme(r), extreme(r), extreme(r), extreme(r)})
			if r.Intn(2) == 0 {
				lives[len(lives)-1] = Life{r.Intn(2) * 256, r.Intn(2), r.Intn(2), r.Intn(9)}
			}
		}
		if gaps, e := Missing(l, lives); e != api.OK && len(gaps) > 0 {
			t.Fatal("gaps with an error")
		}
	}
	_, e := Missing(nil, []Life{{math.MinInt, math.MinInt, math.MinInt, math.MinInt}})
	isCode(t, "Missing", e, api.ErrArg)
}
