package gas

import (
	"math"
	"math/big"
	"math/rand"
	"slices"
	"testing"

	"fluxmast/api"
	"fluxmast/num"
)

// P4.1, P4.7 and P4.8: profiles.

func TestLevels(t *testing.T) {
	slots := []Slot{{From: 0, Level: 1}, {From: 100, Level: 2}, {From: 200, Level: 2}, {From: 300, Level: 0}}
	near := []Slot{{From: 7, Level: 5}, {From: 10, Level: 7}, {From: 12, Level: 7}, {From: 14, Level: 5}}
	for _, c := range []struct {
		what  string
		slots []Slot
		flush int
		times []int
		want  []int
	}{
		{"the example", slots, 10, []int{5, 10, 105, 110}, []int{-1, 1, -1, 2}},
		{"the ends of slots", slots, 10, []int{0, 9, 99, 100, 109, 199, 200, 299, 300, 309, 310, 9999}, []int{-1, -1, 1, -1, -1, 2, 2, 2, -1, -1, 0, 0}},
		{"no flush", slots, 0, []int{-1, 0, 99, 100, 300}, []int{-1, 1, 1, 2, 0}},
		{"any order", slots, 10, []int{310, 5, 201, 5, 10}, []int{0, -1, 2, -1, 1}},
		{"any numbers", slots, 10, []int{math.MinInt, math.MaxInt, -1 << 40, 1 << 41}, []int{-1, 0, -1, 0}},
		{"a long flush", slots, 1 << 40, []int{99, 100, 199, 200, 1 << 40, 1<<40 + 299, 1<<40 + 300}, []int{-1, -1, -1, 2, -1, -1, 0}},
		// A slot with the level of the one ahead is not flushed, however near that one is.
		{"slots that are near", near, 4, []int{6, 7, 10, 11, 12, 13, 14, 17, 18}, []int{-1, -1, -1, -1, 7, 7, -1, -1, 5}},
		{"no slots", nil, 10, []int{5, 10}, []int{-1, -1}},
		{"empty slots", []Slot{}, 0, []int{5, 10}, []int{-1, -1}},
		{"no times", slots, 10, nil, nil},
		{"neither slots nor times", nil, 0, []int{}, nil},
		{"the latest slot", []Slot{{From: 1 << 40, Level: 3}}, 1 << 40, []int{1 << 40, 1<<41 - 1, 1 << 41}, []int{-1, -1, 3}},
	} {
		got, e := Levels(c.slots, c.flush, c.times)
		isCode(t, "Levels of "+c.what, e, api.OK)
		isInts(t, "Levels of "+c.what, got, c.want)
	}
}

func TestLevelsErrors(t *testing.T) {
	slots := func(count int) []Slot {
		l := make([]Slot, count)
		for i := range l {
			l[i] = Slot{From: i, Level: i % 8}
		}
		return l
	}
	for _, c := range []struct {
		what  string
		slots []Slot
		flush int
		times int
		want  api.Errno
	}{
		{"32 slots and 256 times", slots(32), 1 << 40, 256, api.OK},
		{"33 slots", slots(33), 0, 0, api.ErrSize},
		{"33 invalid slots", make([]Slot, 33), -1, 0, api.ErrSize},
		{"a slot below 0", []Slot{{From: -1}}, 0, 0, api.ErrArg},
		{"the latest slot", []Slot{{From: 1 << 40}}, 0, 0, api.OK},
		{"a slot above 2^40", []Slot{{From: 1<<40 + 1}}, 0, 0, api.ErrArg},
		{"the greatest level", []Slot{{Level: 7}}, 0, 0, api.OK},
		{"a level below 0", []Slot{{Level: -1}}, 0, 0, api.ErrArg},
		{"a level above 7", []Slot{{From: 1, Level: 8}}, 0, 0, api.ErrArg},
		{"two slots at a time", []Slot{{From: 3}, {From: 3, Level: 1}}, 0, 0, api.ErrOrder},
		{"an earlier slot", []Slot{{From: 3}, {From: 5}, {From: 4}}, 0, 0, api.ErrOrder},
		{"a level above 7 out of order", []Slot{{From: 3}, {From: 3, Level: 8}}, 0, 0, api.ErrArg},
		{"a slot below 0 out of order", []Slot{{From: 3}, {From: -1}}, 0, 0, api.ErrArg},
		{"an order ahead of a level above 7", []Slot{{From: 3}, {From: 3}, {From: 4, Level: 8}}, 0, 0, api.ErrOrder},
		{"a level above 7 ahead of an order", []Slot{{From: 3, Level: 8}, {From: 3}}, 0, 0, api.ErrArg},
		{"an order and a flush below 0", []Slot{{From: 3}, {From: 3}}, -1, 0, api.ErrOrder},
		{"a flush below 0", nil, -1, 0, api.ErrArg},
		{"the least flush", nil, math.MinInt, 0, api.ErrArg},
		{"a flush above 2^40", slots(3), 1<<40 + 1, 0, api.ErrArg},
		{"a flush below 0 and 257 times", nil, -1, 257, api.ErrArg},
		{"257 times", nil, 0, 257, api.ErrSize},
		{"257 times and an order", []Slot{{From: 3}, {From: 3}}, 0, 257, api.ErrOrder},
	} {
		got, e := Levels(c.slots, c.flush, make([]int, c.times))
		isCode(t, "Levels with "+c.what, e, c.want)
		if c.want != api.OK && len(got) > 0 {
			t.Errorf("Levels with %s: %v with an error", c.what, got)
		}
	}
}

// randomSlots is slots among the first thousand times.
func randomSlots(r *rand.Rand) []Slot {
	var l []Slot
	from := r.Intn(20)
	for range r.Intn(33) {
		l = append(l, Slot{From: from, Level: r.Intn(8) % (1 + r.Intn(8))})
		from += 1 + r.Intn(40)
	}
	return l
}

// slowLevel walks through all times up to one.
func slowLevel(slots []Slot, flush, time int) int {
	now, flushed := -1, 0
	for second := range time + 1 {
		for i, slot := range slots {
			if slot.From != second {
				continue
			}
			now, flushed = slot.Level, second
			if i == 0 || slots[i-1].Level != slot.Level {
				flushed += flush
			}
		}
	}
	if time < flushed {
		return -1
	}
	return now
}

func TestLevelsModel(t *testing.T) {
	r := seeded()
	for range 100 {
		slots, flush := randomSlots(r), r.Intn(60)
		times := make([]int, 10)
		var want []int
		for i := range times {
			times[i] = r.Intn(700)
			want = append(want, slowLevel(slots, flush, times[i]))
		}
		got, e := Levels(slots, flush, times)
		isCode(t, "Levels", e, api.OK)
		isInts(t, "Levels", got, want)
	}
}

func TestLongerFlush(t *testing.T) {
	r := seeded()
	for range 300 {
		slots, flush := randomSlots(r), r.Intn(60)
		times := make([]int, 256)
		for i := range times {
			times[i] = r.Intn(700) - 10
		}
		all, e := Levels(slots, 0, times)
		isCode(t, "Levels without a flush", e, api.OK)
		some, e := Levels(slots, flush, times)
		isCode(t, "Levels", e, api.OK)
		few, e := Levels(slots, flush+r.Intn(60), times)
		isCode(t, "Levels with a longer flush", e, api.OK)
		for i, time := range times {
			isTrue(t, "a longer flush leaves no more", few[i] == some[i] || few[i] == -1)
			isTrue(t, "a sample that is left has the level of its slot", some[i] == all[i] || some[i] == -1)
			at := -1
			for j, slot := range slots {
				if slot.From <= time {
					at = j
				}
			}
			isTrue(t, "without a flush all have a level", at < 0 && all[i] == -1 || at >= 0 && all[i] == slots[at].Level)
		}
	}
}

func TestMeans(t *testing.T) {
	for _, c := range []struct {
		what   string
		levels []int
		values string
		n      int
		means  string
		counts []int
	}{
		{"three levels", []int{0, 2, 0, -1}, "1 5 2 9", 3, "3/2 0 5", []int{2, 0, 1}},
		{"one level", []int{0, -1, 0, 0}, "1/2 7 1/3 1/6", 1, "1/3", []int{3}},
		{"no sample", nil, "", 2, "0 0", []int{0, 0}},
		{"no level", []int{-1, -1}, "3 4", 2, "0 0", []int{0, 0}},
		{"sums of 0", []int{1, 1, 7}, "3 -3 0", 8, "0 0 0 0 0 0 0 0", []int{0, 2, 0, 0, 0, 0, 0, 1}},
	} {
		means, counts, e := Means(c.levels, fracs(c.values), c.n)
		isCode(t, "Means of "+c.what, e, api.OK)
		isText(t, "Means of "+c.what, fracsText(means), c.means)
		isInts(t, "the counts of "+c.what, counts, c.counts)
	}
}

func TestMeansErrors(t *testing.T) {
	for _, c := range []struct {
		what   string
		levels []int
		values int
		n      int
		want   api.Errno
	}{
		{"256 samples", make([]int, 256), 256, 1, api.OK},
		{"8 levels", []int{7, -1}, 2, 8, api.OK},
		{"no level", nil, 0, 0, api.ErrArg},
		{"9 levels", nil, 0, 9, api.ErrArg},
		{"less than no level", nil, 0, -1, api.ErrArg},
		{"the most levels", nil, 0, math.MaxInt, api.ErrArg},
		{"the fewest levels", nil, 0, math.MinInt, api.ErrArg},
		{"9 levels of 257 samples", make([]int, 257), 257, 9, api.ErrArg},
		{"257 samples", make([]int, 257), 257, 1, api.ErrSize},
		{"too few values", make([]int, 3), 2, 1, api.ErrSize},
		{"too many values", make([]int, 3), 4, 1, api.ErrSize},
		{"values without levels", nil, 1, 1, api.ErrSize},
		{"too few values of invalid levels", []int{5, 5}, 1, 1, api.ErrSize},
		{"a level below -1", []int{0, -2}, 2, 1, api.ErrArg},
		{"a level that is n", []int{0, 3}, 2, 3, api.ErrArg},
		{"the least level", []int{math.MinInt}, 1, 3, api.ErrArg},
		{"the greatest level", []int{math.MaxInt}, 1, 3, api.ErrArg},
	} {
		means, counts, e := Means(c.levels, make([]num.Frac, c.values), c.n)
		isCode(t, "Means with "+c.what, e, c.want)
		if c.want != api.OK && len(means)+len(counts) > 0 {
			t.Errorf("Means with %s: %d and %d with an error", c.what, len(means), len(counts))
		}
	}
}

func TestMeansModel(t *testing.T) {
	r := seeded()
	for range 50 {
		n, count := 1+r.Intn(8), r.Intn(257)
		levels, values := make([]int, count), randomFracs(r, count)
		have := 0
		for i := range levels {
			if levels[i] = r.Intn(n+1) - 1; levels[i] >= 0 {
				have++
			}
		}
		means, counts, e := Means(levels, values, n)
		isCode(t, "Means", e, api.OK)
		isTrue(t, "there are n means and counts", len(means) == n && len(counts) == n)
		for level := range n {
			sum, found := new(big.Rat), 0
			for i, x := range values {
				if levels[i] == level {
					sum, found = add(sum, rat(x)), found+1
				}
			}
			isTrue(t, "the count of a level", counts[level] == found)
			isRat(t, "the mean times the count", means[level].Mul(whole(found)), sum)
			have -= counts[level]
		}
		isTrue(t, "all counts are together the samples with a level", have == 0)
	}
}

func TestColumn(t *testing.T) {
	for _, c := range []struct {
		heights []int
		values  string
		want    string
	}{
		{[]int{2, 6}, "1 3", "10"},
		{[]int{2, 3}, "2 4", "7"},
		{[]int{5}, "1/3", "5/3"},
		{[]int{1, 2, 4}, "1 1/2 -1", "5/4"},
		{[]int{1, 10000}, "1 0", "10001/2"},
		{[]int{9999, 10000}, "0 1", "1/2"},
		{[]int{1, 2, 3, 4, 5, 6, 7, 8}, "1 0 0 0 0 0 0 2", "5/2"},
	} {
		got, e := Column(c.heights, fracs(c.values))
		isCode(t, "Column of "+c.values, e, api.OK)
		isText(t, "Column of "+c.values, got.Text(), c.want)
	}
}

type columnCase struct {
	what    string
	heights []int
	values  int
	want    api.Errno
}

func columnCases() []columnCase {
	eight := []int{1, 2, 3, 4, 5, 6, 7, 10000}
	return []columnCase{
		{"8 heights", eight, 8, api.OK},
		{"no list", nil, 0, api.ErrSize},
		{"no height", []int{}, 0, api.ErrSize},
		{"9 heights", append(slices.Clone(eight), 10001), 9, api.ErrSize},
		{"9 invalid heights", make([]int, 9), 9, api.ErrSize},
		{"too few values", eight, 7, api.ErrSize},
		{"too many values", eight, 9, api.ErrSize},
		{"too few values of invalid heights", []int{0, 0}, 1, api.ErrSize},
		{"a height of 0", []int{0, 1}, 2, api.ErrArg},
		{"a height below 0", []int{-1}, 1, api.ErrArg},
		{"a height above 10000", []int{10001}, 1, api.ErrArg},
		{"the least height", []int{math.MinInt}, 1, api.ErrArg},
		{"the greatest height", []int{1, math.MaxInt}, 2, api.ErrArg},
		{"equal heights", []int{2, 2}, 2, api.ErrOrder},
		{"a lower height", []int{2, 4, 3}, 3, api.ErrOrder},
		{"a height of 0 out of order", []int{2, 0}, 2, api.ErrArg},
		{"an order ahead of a height of 0", []int{2, 2, 0}, 3, api.ErrOrder},
		{"a height of 0 ahead of an order", []int{0, 2, 2}, 3, api.ErrArg},
	}
}

func TestColumnErrors(t *testing.T) {
	for _, c := range columnCases() {
		values := make([]num.Frac, c.values)
		for i := range values {
			values[i] = whole(1)
		}
		got, e := Column(c.heights, values)
		isCode(t, "Column with "+c.what, e, c.want)
		stored, f := Stored(c.heights, values, nil, 0)
		if c.want == api.OK { // the errors of the Column of after, and of the seconds, come behind these
			isCode(t, "Stored with "+c.what, f, api.ErrSize)
		} else {
			isCode(t, "Stored with "+c.what, f, c.want)
			isText(t, "Column with "+c.what, got.Text(), "0")
			isText(t, "Stored with "+c.what, stored.Text(), "0")
		}
	}
}

// randomHeights is heights, at times up to 10000.
func randomHeights(r *rand.Rand) []int {
	l := make([]int, 1+r.Intn(8))
	height := 0
	for i := range l {
		height += 1 + r.Intn(1+r.Intn(1250))
		l[i] = height
	}
	return l
}

// slowColumn walks up in steps of a half: each one has the value of the nearest height, and two are one metre.
func slowColumn(heights []int, values []num.Frac) *big.Rat {
	sum := new(big.Rat)
	nearest := 0
	for step := range 2 * heights[len(heights)-1] {
		middle := 2*step + 1 // four times the height
		for nearest+1 < len(heights) && 4*heights[nearest+1]-middle < middle-4*heights[nearest] {
			nearest++
		}
		sum = add(sum, rat(values[nearest]))
	}
	return quo(sum, big.NewRat(2, 1))
}

func TestColumnModel(t *testing.T) {
	r := seeded()
	for range 40 {
		heights := randomHeights(r)
		for i := range heights {
			heights[i] = 1 + i + heights[i]%20
		}
		slices.Sort(heights)
		heights = slices.Compact(heights)
		values := randomFracs(r, len(heights))
		got, e := Column(heights, values)
		isCode(t, "Column", e, api.OK)
		isRat(t, "Column", got, slowColumn(heights, values))
	}
}

func TestColumnIsLinear(t *testing.T) {
	r := seeded()
	for range 300 {
		heights := randomHeights(r)
		a, b, f := randomFracs(r, len(heights)), randomFracs(r, len(heights)), randomFrac(r)
		both, alike := make([]num.Frac, len(a)), make([]num.Frac, len(a))
		for i := range both {
			both[i], alike[i] = a[i].Add(b[i].Mul(f)), f
		}
		columnA, _ := Column(heights, a)
		columnB, _ := Column(heights, b)
		got, e := Column(heights, both)
		isCode(t, "Column of a sum", e, api.OK)
		isText(t, "Column of a sum", got.Text(), columnA.Add(columnB.Mul(f)).Text())
		got, e = Column(heights, alike)
		isCode(t, "Column of equal values", e, api.OK)
		isText(t, "Column of equal values", got.Text(), f.Mul(whole(slices.Max(heights))).Text())
	}
}

func TestStored(t *testing.T) {
	for _, c := range []struct {
		what          string
		heights       []int
		before, after string
		seconds       int
		want          string
		code          api.Errno
	}{
		{"more below", []int{2, 6}, "1 3", "2 3", 8, "1/2", api.OK},
		{"less above", []int{2, 6}, "1 3", "1 0", 8, "-3/4", api.OK},
		{"the same", []int{2, 6}, "1 3", "1 3", 1, "0", api.OK},
		{"the longest time", []int{1}, "0", "1", 1 << 20, "1/1048576", api.OK},
		{"a longer time", []int{1}, "0", "1", 1<<20 + 1, "0", api.ErrArg},
		{"no time", []int{1}, "0", "1", 0, "0", api.ErrArg},
		{"a time below 0", []int{1}, "0", "1", -1, "0", api.ErrArg},
		{"the longest time of all", []int{1}, "0", "1", math.MaxInt, "0", api.ErrArg},
		{"the least time of all", []int{1}, "0", "1", math.MinInt, "0", api.ErrArg},
		{"too few before", []int{1, 2}, "0", "1 1", 0, "0", api.ErrSize},
		{"too few after", []int{1, 2}, "0 0", "1", 0, "0", api.ErrSize},
		{"an order, and too few after", []int{2, 2}, "0 0", "1", 0, "0", api.ErrOrder},
		{"a height of 0, and no time", []int{0}, "0", "1", 0, "0", api.ErrArg},
		{"an order, and no time", []int{2, 2}, "0 0", "1 1", 0, "0", api.ErrOrder},
	} {
		got, e := Stored(c.heights, fracs(c.before), fracs(c.after), c.seconds)
		isCode(t, "Stored of "+c.what, e, c.code)
		isText(t, "Stored of "+c.what, got.Text(), c.want)
	}
}

func TestStoredAddsUp(t *testing.T) {
	r := seeded()
	for range 300 {
		heights := randomHeights(r)
		a, b, c := randomFracs(r, len(heights)), randomFracs(r, len(heights)), randomFracs(r, len(heights))
		first, second := 1+r.Intn(1<<19), 1+r.Intn(1<<19)
		early, e := Stored(heights, a, b, first)
		isCode(t, "Stored", e, api.OK)
		late, e := Stored(heights, b, c, second)
		isCode(t, "Stored", e, api.OK)
		both, e := Stored(heights, a, c, first+second)
		isCode(t, "Stored", e, api.OK)
		sum := early.Mul(whole(first)).Add(late.Mul(whole(second)))
		isText(t, "Stored of two times", sum.Text(), both.Mul(whole(first+second)).Text())
	}
}

// P1 and R4.
func TestAnyProfiles(t *testing.T) {
	r := seeded()
	for range 2000 {
		slots := randomSlots(r)
		if len(slots) > 0 && r.Intn(2) == 0 {
			slots[r.Intn(len(slots))] = Slot{extreme(r), r.Intn(9)}
		}
		slots, slotsUnchanged := behind(t, slots, Slot{7, 7}, equal)
		times, timesUnchanged := behind(t, extremes(r, r.Intn(5)), 7, equal)
		if got, e := Levels(slots, extreme(r), times); e != api.OK && len(got) > 0 {
			t.Fatal("levels with an error")
		}
		slotsUnchanged()
		timesUnchanged()

		n := r.Intn(4)
		levels, levelsUnchanged := behind(t, extremes(r, n), 7, equal)
		values, valuesUnchanged := behind(t, randomFracs(r, n), whole(7), num.Frac.Same)
		if means, counts, e := Means(levels, values, r.Intn(10)); e != api.OK && len(means)+len(counts) > 0 {
			t.Fatal("means with an error")
		}
		if got, e := Column(levels, values); e != api.OK && !got.Zero() {
			t.Fatal("a column with an error")
		}
		if got, e := Stored(levels, values, values, extreme(r)); e != api.OK && !got.Zero() {
			t.Fatal("a stored amount with an error")
		}
		levelsUnchanged()
		valuesUnchanged()
	}
}
