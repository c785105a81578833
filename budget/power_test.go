package budget_test

import (
	"math"
	"math/rand"
	"slices"
	"testing"

	"fluxmast/api"
	"fluxmast/budget"
)

// P9.1 and P9.8: power.

const maxPower = 1 << 30

func TestModes(t *testing.T) {
	isList(t, "the modes", []int{budget.Normal, budget.Saving, budget.Asleep}, []int{0, 1, 2})
}

func station(capacity, floor, normal, saving, asleep int) budget.Station {
	return budget.Station{Capacity: capacity, Floor: floor, Need: [3]int{normal, saving, asleep}}
}

// ranges is the ranges with both ends of each one.
func ranges(ends ...int) []api.Range {
	var l []api.Range
	for pair := range slices.Chunk(ends, 2) {
		l = append(l, api.Range{Lo: pair[0], Hi: pair[1]})
	}
	return l
}

func only(n int) api.Range { return api.Range{Lo: n, Hi: n} }

// The example: a station that has to save.
var (
	small    = station(100, 10, 60, 30, 10)
	half     = only(50)
	twoSuns  = ranges(20, 30, 0, 10)
	sunshine = ranges(90, 100)
)

// slowDay is the charge behind a day, and whether there was as much as was needed.
func slowDay(s budget.Station, charge, sun, mode int) (int, bool) {
	charge += sun
	if charge > s.Capacity {
		charge = s.Capacity
	}
	if charge < s.Need[mode] {
		return 0, false
	}
	return charge - s.Need[mode], true
}

// slowWinter is the charges behind each day, and the first day that is short or below the floor.
func slowWinter(s budget.Station, charge int, sun, plan []int) (charges []int, bad int) {
	bad = -1
	for day, mode := range plan {
		var enough bool
		charge, enough = slowDay(s, charge, sun[day], mode)
		charges = append(charges, charge)
		if bad < 0 && (!enough || charge < s.Floor) {
			bad = day
		}
	}
	return charges, bad
}

func los(l []api.Range) []int { return ends(l, func(x api.Range) int { return x.Lo }) }
func his(l []api.Range) []int { return ends(l, func(x api.Range) int { return x.Hi }) }

func ends(l []api.Range, end func(api.Range) int) []int {
	all := make([]int, len(l))
	for i, x := range l {
		all[i] = end(x)
	}
	return all
}

// slowPlan tries all plans in their order, as far as they are safe.
func slowPlan(s budget.Station, charge int, sun []int) ([]int, bool) {
	if len(sun) == 0 {
		return nil, true
	}
	for mode := range 3 {
		left, enough := slowDay(s, charge, sun[0], mode)
		if !enough || left < s.Floor {
			continue
		}
		if rest, ok := slowPlan(s, left, sun[1:]); ok {
			return append([]int{mode}, rest...), true
		}
	}
	return nil, false
}

// leastPlan is the plan by the least charges that are needed ahead of each day, from the last one on, if who has them
// sleeps.
func leastPlan(s budget.Station, charge int, sun []int) ([]int, bool) {
	needed := make([]int, len(sun)+1)
	for day := len(sun) - 1; day >= 0; day-- {
		there := s.Need[2] + max(s.Floor, needed[day+1])
		if there > s.Capacity {
			return nil, false
		}
		needed[day] = max(there-sun[day], 0)
	}
	if charge < needed[0] {
		return nil, false
	}
	var plan []int
	for day, x := range sun {
		mode := 0
		for ; ; mode++ {
			left, enough := slowDay(s, charge, x, mode)
			if enough && left >= max(s.Floor, needed[day+1]) {
				charge = left
				break
			}
		}
		plan = append(plan, mode)
	}
	return plan, true
}

// Random winters.

func randomRange(r *rand.Rand, most int) api.Range {
	x := api.Range{Lo: r.Intn(most + 1), Hi: r.Intn(most + 1)}
	if x.Lo > x.Hi {
		x.Lo, x.Hi = x.Hi, x.Lo
	}
	return x
}

func randomStation(r *rand.Rand) budget.Station {
	capacity := 1 + r.Intn([]int{10, 100, maxPower}[r.Intn(3)])
	need := []int{r.Intn(capacity + 1), r.Intn(capacity + 1), r.Intn(capacity/4 + 1)}
	slices.Sort(need)
	return station(capacity, r.Intn(capacity+1)/(1+r.Intn(4)), need[2], need[1], need[0])
}

// winter is a station with a charge and suns, and some plan.
type winter struct {
	s      budget.Station
	charge api.Range
	sun    []api.Range
	plan   []int
}

func randomWinter(r *rand.Rand, days int) winter {
	s := randomStation(r)
	w := winter{s: s, charge: randomRange(r, s.Capacity), sun: make([]api.Range, days), plan: make([]int, days)}
	if r.Intn(2) == 0 {
		w.charge = only(s.Capacity)
	}
	for i := range w.sun {
		w.sun[i] = randomRange(r, s.Need[r.Intn(3)])
		if r.Intn(10) == 0 {
			w.sun[i] = randomRange(r, maxPower)
		}
		w.plan[i] = r.Intn(3)
	}
	return w
}

func (w winter) charges(t testing.TB) []api.Range {
	t.Helper()
	return right[[]api.Range](t, "Charges")(budget.Charges(w.s, w.charge, w.sun, w.plan))
}

func (w winter) safe(t testing.TB) int {
	t.Helper()
	return right[int](t, "Safe")(budget.Safe(w.s, w.charge, w.sun, w.plan))
}

func TestCharges(t *testing.T) {
	for _, c := range []struct {
		what string
		w    winter
		want []api.Range
		safe int
	}{
		{"the example", winter{small, half, twoSuns, []int{1, 1}}, ranges(40, 50, 10, 30), -1},
		{"Normal behind Saving", winter{small, half, twoSuns, []int{1, 0}}, ranges(40, 50, 0, 0), 1},
		{"Normal ahead of Asleep", winter{small, half, twoSuns, []int{0, 2}}, ranges(10, 20, 0, 20), 1},
		{"always Asleep", winter{small, half, twoSuns, []int{2, 2}}, ranges(60, 70, 50, 70), -1},
		{"always Normal", winter{small, half, twoSuns, []int{0, 0}}, ranges(10, 20, 0, 0), 1},
		{"no day", winter{small, half, nil, nil}, nil, -1},
		{"no day, and a charge below the floor", winter{small, only(0), []api.Range{}, []int{}}, nil, -1},
		{"full batteries", winter{small, ranges(90, 100)[0], ranges(50, 60), []int{1}}, ranges(70, 70), -1},
		{"a sun that fills the batteries", winter{small, ranges(0, 10)[0], sunshine, []int{2}}, ranges(80, 90), -1},
		{"more sun than there is room for", winter{small, only(0), ranges(100, maxPower), []int{2}}, ranges(90, 90), -1},
		{"short", winter{small, ranges(0, 100)[0], ranges(0, 0), []int{0}}, ranges(0, 40), 0},
		{"short, and then a sun", winter{small, only(0), ranges(20, 30, 50, 50), []int{0, 2}}, ranges(0, 0, 40, 40), 0},
		{"short with the floor 0", winter{station(100, 0, 60, 30, 10), only(9), ranges(0, 5), []int{2}}, ranges(0, 4), 0},
		{"just enough with the floor 0", winter{station(100, 0, 60, 30, 10), only(9), ranges(1, 5), []int{2}}, ranges(0, 4), -1},
		{"just the floor", winter{small, only(15), ranges(5, 5), []int{2}}, ranges(10, 10), -1},
		{"hardly below the floor", winter{small, only(14), ranges(5, 5), []int{2}}, ranges(9, 9), 0},
		{"below the floor at the Lo", winter{small, ranges(14, 50)[0], ranges(5, 5), []int{2}}, ranges(9, 45), 0},
		{"a charge below the floor that the sun lifts", winter{small, only(0), ranges(40, 40), []int{1}}, ranges(10, 10), -1},
		{"a floor as great as the capacity", winter{station(10, 10, 0, 0, 0), only(10), ranges(0, 0), []int{0}}, ranges(10, 10), -1},
		{"more need than capacity", winter{station(10, 0, 11, 10, 0), only(10), ranges(0, 5), []int{0}}, ranges(0, 0), 0},
		{"all the capacity", winter{station(10, 0, 11, 10, 0), only(10), ranges(0, 5), []int{1}}, ranges(0, 0), -1},
		{"the greatest numbers", winter{station(maxPower, 0, maxPower, maxPower, maxPower), only(maxPower), ranges(maxPower, maxPower), []int{1}}, ranges(0, 0), -1},
	} {
		isList(t, "Charges of "+c.what, c.w.charges(t), c.want)
		isInt(t, "Safe of "+c.what, c.w.safe(t), c.safe)
	}
}

func TestChargesModel(t *testing.T) {
	r := seeded()
	found := 0
	for range 1000 {
		w := randomWinter(r, r.Intn(65))
		if r.Intn(2) == 0 {
			w = randomWinter(r, r.Intn(5))
		}
		lo, bad := slowWinter(w.s, w.charge.Lo, los(w.sun), w.plan)
		hi, _ := slowWinter(w.s, w.charge.Hi, his(w.sun), w.plan)
		got := w.charges(t)
		isList(t, "the Los of Charges", los(got), lo)
		isList(t, "the His of Charges", his(got), hi)
		isInt(t, "Safe", w.safe(t), bad)
		if bad < 0 {
			found++
		}
		for range 5 { // true numbers in the ranges
			charge, sun := truth(r, w.charge), make([]int, len(w.sun))
			for i, x := range w.sun {
				sun[i] = truth(r, x)
			}
			charges, day := slowWinter(w.s, charge, sun, w.plan)
			for i, n := range charges {
				isTrue(t, "the true charge lies in Charges", got[i].Lo <= n && n <= got[i].Hi)
			}
			isTrue(t, "a safe plan is never below the floor, nor short", bad >= 0 || day < 0)
		}
	}
	isTrue(t, "some plans are safe, and some not", found > 100 && found < 900)
}

// truth is a number of a range.
func truth(r *rand.Rand, x api.Range) int {
	return x.Lo + r.Intn(x.Hi-x.Lo+1)
}

// more is as much sun as there was, or more of it.
func more(r *rand.Rand, sun []api.Range) []api.Range {
	l := slices.Clone(sun)
	for i, x := range l {
		if r.Intn(2) == 0 {
			l[i].Hi = truth(r, api.Range{Lo: x.Hi, Hi: maxPower})
			l[i].Lo = truth(r, api.Range{Lo: x.Lo, Hi: l[i].Hi})
		}
	}
	return l
}

func TestMoreSun(t *testing.T) {
	r := seeded()
	safe := 0
	for range 1000 {
		w := randomWinter(r, 1+r.Intn(6))
		if w.safe(t) >= 0 {
			continue
		}
		safe++
		w.sun = more(r, w.sun)
		isInt(t, "Safe with more sun", w.safe(t), -1)
	}
	isTrue(t, "many plans are safe", safe > 100)
}

func TestPlan(t *testing.T) {
	for _, c := range []struct {
		what   string
		s      budget.Station
		charge api.Range
		sun    []api.Range
		want   []int
		code   api.Errno
	}{
		{"the example", small, half, twoSuns, []int{1, 1}, api.OK},
		{"the same with any Hi", small, ranges(50, 100)[0], ranges(20, 90, 0, 99), []int{1, 1}, api.OK},
		{"no day", small, half, nil, nil, api.OK},
		{"no day, and a charge below the floor", small, only(0), []api.Range{}, nil, api.OK},
		{"one day", small, half, ranges(20, 20), []int{0}, api.OK},
		{"one day with a little less sun", small, half, ranges(19, 20), []int{1}, api.OK},
		{"one day asleep", small, only(20), ranges(0, 0), []int{2}, api.OK},
		{"one day with too little", small, only(19), ranges(0, 90), nil, api.ErrPower},
		{"a Hi that would do", small, ranges(15, 100)[0], ranges(4, 90), nil, api.ErrPower},
		{"a last day with too little", small, only(100), ranges(90, 90, 0, 0, 0, 0, 0, 0, 0, 0, 0, 0, 0, 0, 0, 0, 0, 0, 0, 0), nil, api.ErrPower},
		{"the first day does as much as it can", small, only(100), ranges(0, 0, 0, 0, 0, 0, 0, 0), []int{0, 2, 2, 2}, api.OK},
		{"a sun behind", small, only(80), ranges(0, 0, 60, 60, 0, 0), []int{0, 0, 2}, api.OK},
		{"a sun that would be lost", small, only(100), ranges(60, 60, 60, 60), []int{0, 0}, api.OK},
		{"all modes alike", station(100, 10, 20, 20, 20), only(50), ranges(0, 0, 0, 0), []int{0, 0}, api.OK},
		{"Saving as Asleep", station(100, 10, 60, 20, 20), only(50), ranges(0, 0, 0, 0), []int{1, 1}, api.OK},
		{"no need of anything", station(100, 10, 0, 0, 0), only(10), ranges(0, 0, 0, 0), []int{0, 0}, api.OK},
		{"a floor that the batteries never reach behind a day", station(10, 10, 1, 1, 1), only(10), ranges(10, 10), nil, api.ErrPower},
		{"the floor 0", station(10, 0, 5, 4, 3), only(7), ranges(0, 0, 0, 0), []int{1, 2}, api.OK},
		{"short with the floor 0", station(10, 0, 5, 4, 3), only(5), ranges(0, 0, 0, 0), nil, api.ErrPower},
		{"the greatest numbers", station(maxPower, maxPower, 0, 0, 0), only(maxPower), ranges(maxPower, maxPower), []int{0}, api.OK},
	} {
		got, e := budget.Plan(c.s, c.charge, c.sun)
		isCode(t, "Plan of "+c.what, e, c.code)
		isList(t, "Plan of "+c.what, got, c.want)
	}
}

func TestPlanModel(t *testing.T) {
	r := seeded()
	found := 0
	for i := range 2000 {
		days := r.Intn(6)
		if i%4 == 0 {
			days = r.Intn(65)
		}
		w := randomWinter(r, days)
		want, ok := leastPlan(w.s, w.charge.Lo, los(w.sun))
		if days < 6 {
			slow, same := slowPlan(w.s, w.charge.Lo, los(w.sun))
			isTrue(t, "both models have a plan, or none", ok == same)
			isList(t, "the plan of both models", want, slow)
		}
		got, e := budget.Plan(w.s, w.charge, w.sun)
		if !ok {
			isCode(t, "Plan", e, api.ErrPower)
			isTrue(t, "an error of Plan comes alone", len(got) == 0)
			isTrue(t, "no plan is safe", days > 0 && w.safe(t) >= 0)
			continue
		}
		found++
		isCode(t, "Plan", e, api.OK)
		isList(t, "Plan", got, want)
		isTrue(t, "no safe plan stands ahead of Plan", w.safe(t) >= 0 || slices.Compare(got, w.plan) <= 0)
		w.plan = got
		isInt(t, "Safe of Plan", w.safe(t), -1)
	}
	isTrue(t, "some winters have a plan, and some none", found > 500 && found < 1700)
}

// winterCase is a winter with its errors: that of the winter, and then that of the plan.
type winterCase struct {
	what        string
	w           winter
	early, late api.Errno
}

func winterCases() []winterCase {
	plan := []int{1, 1}
	long := make([]api.Range, 65)
	one := []winterCase{
		{"all well", winter{small, half, twoSuns, plan}, api.OK, api.OK},
		{"64 days", winter{small, half, slices.Repeat(sunshine, 64), make([]int, 64)}, api.OK, api.OK},
		{"the least station", winter{station(1, 0, 0, 0, 0), only(0), nil, nil}, api.OK, api.OK},
		{"the greatest station", winter{station(maxPower, maxPower, maxPower, maxPower, maxPower), only(maxPower), nil, nil}, api.OK, api.OK},
		{"all charges and suns", winter{small, ranges(0, 100)[0], ranges(0, maxPower), []int{2}}, api.OK, api.OK},

		{"no capacity", winter{s: budget.Station{}}, api.ErrArg, api.OK},
		{"the floor above the capacity", winter{s: station(5, 6, 0, 0, 0)}, api.ErrArg, api.OK},
		{"more need of Saving", winter{s: station(5, 0, 1, 2, 0)}, api.ErrOrder, api.OK},
		{"more need of Asleep", winter{s: station(5, 0, 3, 2, 3)}, api.ErrOrder, api.OK},
		{"more need of Saving, and a wrong need", winter{s: station(5, 0, 1, 2, -1)}, api.ErrArg, api.OK},
		{"more need of Saving, and 65 days", winter{s: station(5, 0, 1, 2, 0), sun: long}, api.ErrOrder, api.OK},
		{"more need of Saving, and a wrong charge", winter{s: station(5, 0, 1, 2, 0), charge: only(-1)}, api.ErrOrder, api.OK},
		{"no capacity, and 65 days", winter{sun: long}, api.ErrArg, api.OK},

		{"65 days", winter{small, half, long, make([]int, 65)}, api.ErrSize, api.OK},
		{"65 days, and a wrong charge", winter{small, only(-1), long, nil}, api.ErrSize, api.OK},
		{"65 wrong days", winter{small, half, slices.Repeat(ranges(-1, 0), 65), nil}, api.ErrSize, api.OK},
		{"the Lo of the charge above its Hi", winter{small, ranges(2, 1)[0], twoSuns, plan}, api.ErrOrder, api.OK},
		{"the Lo of the charge above its Hi, which is wrong", winter{small, ranges(2, -1)[0], twoSuns, plan}, api.ErrArg, api.OK},
		{"the Lo of the charge above its Hi, and a wrong sun", winter{small, ranges(2, 1)[0], ranges(-1, 0), plan}, api.ErrOrder, api.OK},
		{"the Lo of a sun above its Hi", winter{small, half, ranges(0, 1, 2, 1), plan}, api.ErrOrder, api.OK},
		{"the Lo of a sun above its Hi, which is wrong", winter{small, half, ranges(0, 1, 2, -1), plan}, api.ErrArg, api.OK},
		{"the Lo of a sun above its Hi, ahead of a wrong one", winter{small, half, ranges(2, 1, -1, 0), plan}, api.ErrOrder, api.OK},
		{"a wrong sun ahead of a Lo above its Hi", winter{small, half, ranges(-1, 0, 2, 1), plan}, api.ErrArg, api.OK},
		{"a wrong last sun", winter{small, half, with(slices.Repeat(sunshine, 64), 63, only(-1)), plan}, api.ErrArg, api.OK},
		{"a wrong sun, and a short plan", winter{small, half, ranges(-1, 0), nil}, api.ErrArg, api.OK},
		{"a Lo above its Hi, and a wrong mode", winter{small, half, ranges(1, 0), []int{3}}, api.ErrOrder, api.OK},

		{"no plan", winter{small, half, twoSuns, nil}, api.OK, api.ErrSize},
		{"a short plan", winter{small, half, twoSuns, plan[:1]}, api.OK, api.ErrSize},
		{"a long plan", winter{small, half, twoSuns, []int{1, 1, 1}}, api.OK, api.ErrSize},
		{"a plan of no day", winter{small, half, nil, plan}, api.OK, api.ErrSize},
		{"a short plan with a wrong mode", winter{small, half, twoSuns, []int{3}}, api.OK, api.ErrSize},
		{"a long plan with a wrong mode", winter{small, half, twoSuns, []int{1, 1, 3}}, api.OK, api.ErrSize},
	}
	return append(one, wrongNumbers()...)
}

// wrongNumbers is winters with a single wrong number each.
func wrongNumbers() []winterCase {
	var l []winterCase
	add := func(what string, numbers []int, make func(n int) winter, early, late api.Errno) {
		for _, n := range numbers {
			l = append(l, winterCase{what, make(n), early, late})
		}
	}
	plan := []int{1, 1}
	add("a wrong capacity", outside(1, maxPower), func(n int) winter { return winter{s: station(n, 0, 0, 0, 0)} }, api.ErrArg, api.OK)
	add("a wrong floor", outside(0, 100), func(n int) winter { return winter{s: station(100, n, 0, 0, 0)} }, api.ErrArg, api.OK)
	for i := range 3 {
		add("a wrong need", outside(0, maxPower), func(n int) winter {
			s := small
			s.Need[i] = n
			return winter{s: s}
		}, api.ErrArg, api.OK)
	}
	add("a wrong Lo of the charge", outside(0, 100), func(n int) winter { return winter{small, api.Range{Lo: n, Hi: 50}, twoSuns, plan} }, api.ErrArg, api.OK)
	add("a wrong Hi of the charge", outside(0, 100), func(n int) winter { return winter{small, api.Range{Lo: 50, Hi: n}, twoSuns, plan} }, api.ErrArg, api.OK)
	for i := range 2 {
		add("a wrong Lo of a sun", outside(0, maxPower), func(n int) winter { return winter{small, half, with(twoSuns, i, api.Range{Lo: n, Hi: 9}), plan} }, api.ErrArg, api.OK)
		add("a wrong Hi of a sun", outside(0, maxPower), func(n int) winter { return winter{small, half, with(twoSuns, i, api.Range{Lo: 9, Hi: n}), plan} }, api.ErrArg, api.OK)
		add("a wrong mode", outside(0, 2), func(n int) winter { return winter{small, half, twoSuns, with(plan, i, n)} }, api.OK, api.ErrArg)
	}
	return l
}

func TestPowerErrors(t *testing.T) {
	for _, c := range winterCases() {
		w, want := c.w, c.early
		_, e := budget.Plan(w.s, w.charge, w.sun)
		isTrue(t, "Plan with "+c.what, e == want || want == api.OK && e == api.ErrPower)
		if want == api.OK {
			want = c.late
		}
		charges, e := budget.Charges(w.s, w.charge, w.sun, w.plan)
		isCode(t, "Charges with "+c.what, e, want)
		isTrue(t, "an error of Charges comes alone, "+c.what, e == api.OK || len(charges) == 0)
		day, e := budget.Safe(w.s, w.charge, w.sun, w.plan)
		isCode(t, "Safe with "+c.what, e, want)
		isTrue(t, "an error of Safe comes alone, "+c.what, e == api.OK || day == 0)
	}
}

func TestPowerKeepsItsArguments(t *testing.T) {
	sun, sameSun := behind(t, twoSuns, only(77), equal)
	plan, samePlan := behind(t, []int{1, 1}, 77, equal)
	for range 2 {
		w := winter{small, half, sun, plan}
		charges := w.charges(t)
		isList(t, "Charges", charges, ranges(40, 50, 10, 30))
		scribble(charges, only(99))
		isInt(t, "Safe", w.safe(t), -1)
		best := right[[]int](t, "Plan")(budget.Plan(small, half, sun))
		isList(t, "Plan", best, plan)
		scribble(best, 99)
	}
	sameSun()
	samePlan()
}

// P1: no call panics, and an error comes alone.
func TestAnyPower(t *testing.T) {
	r := seeded()
	anyRange := func() api.Range { return api.Range{Lo: extreme(r), Hi: extreme(r)} }
	for range 3000 {
		w := randomWinter(r, r.Intn(4))
		switch r.Intn(5) {
		case 0:
			w.s = station(extreme(r), extreme(r), extreme(r), extreme(r), extreme(r))
		case 1:
			w.charge = anyRange()
		case 2:
			w.sun = append(w.sun, anyRange())
		case 3:
			w.plan = append(w.plan, []int{r.Intn(3), extreme(r)}[r.Intn(2)])
		case 4:
			w.s.Capacity, w.plan = math.MaxInt, []int{math.MinInt}
		}
		charges, e := budget.Charges(w.s, w.charge, w.sun, w.plan)
		isTrue(t, "an error of Charges comes alone", e == api.OK || len(charges) == 0)
		day, f := budget.Safe(w.s, w.charge, w.sun, w.plan)
		isTrue(t, "Safe has the errors of Charges, and comes alone", e == f && (f == api.OK || day == 0))
		best, g := budget.Plan(w.s, w.charge, w.sun)
		isTrue(t, "an error of Plan comes alone", g == api.OK || len(best) == 0)
	}
}
