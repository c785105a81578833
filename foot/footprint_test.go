package foot_test

import (
	"math"
	"math/big"
	"slices"
	"testing"

	"fluxmast/api"
	"fluxmast/foot"
	"fluxmast/num"
)

// P7.1 and P7.2: footprints.

func plan(reach string, size, steps, wide, whole int) foot.Plan {
	return foot.Plan{Reach: frac(reach), Size: size, Steps: steps, Wide: wide, Whole: whole}
}

func upwind(t testing.TB, p foot.Plan) ([]int, int) {
	t.Helper()
	l, left, e := foot.Upwind(p)
	isCode(t, "Upwind", e, api.OK)
	return l, left
}

func across(t testing.TB, n, wide int) []int {
	t.Helper()
	return right[[]int](t, "Across")(foot.Across(n, wide))
}

func mapOf(t testing.TB, p foot.Plan) ([][]int, int) {
	t.Helper()
	m, left, e := foot.Map(p)
	isCode(t, "Map", e, api.OK)
	return m, left
}

func cumulated(t testing.TB, reach, x num.Frac, k int) num.Band {
	t.Helper()
	return right[num.Band](t, "Cumulated")(foot.Cumulated(reach, x, k))
}

func sumOf(l []int) int {
	sum := 0
	for _, n := range l {
		sum += n
	}
	return sum
}

// slowCumulated is how much of the whole comes from within 0, 1, 2 and so on cells.
func slowCumulated(p foot.Plan) []int {
	l := []int{0}
	for i := 1; i <= p.Steps; i++ {
		ratio := ratQuo(rat(p.Reach), ratOf(p.Size*i))
		c := 0
		if ratio.Cmp(ratOf(64)) <= 0 {
			c = int(slowFallen(big.NewInt(int64(p.Whole)), ratio).Int64())
		}
		l = append(l, c)
	}
	return l
}

func slowUpwind(p foot.Plan) ([]int, int) {
	c := slowCumulated(p)
	var l []int
	for i := range p.Steps {
		l = append(l, c[i+1]-c[i])
	}
	return l, p.Whole - c[p.Steps]
}

func slowAcross(n, wide int) []int {
	d := []int{0}
	sum := new(big.Int)
	for j := range 2*wide + 1 {
		sum.Add(sum, new(big.Int).Binomial(int64(2*wide), int64(j)))
		part := new(big.Int).Mul(big.NewInt(int64(n)), sum)
		d = append(d, int(part.Quo(part, power2(uint(2*wide))).Int64()))
	}
	var l []int
	for j := range 2*wide + 1 {
		l = append(l, d[j+1]-d[j])
	}
	return l
}

// plans is plans of all kinds.
func plans() []foot.Plan {
	l := []foot.Plan{
		plan("10", 10, 2, 1, 1000),
		plan("1", 1, 1, 0, 1),
		plan("1048576", 1, 32, 8, 1<<20),
		plan("1048576", 1000, 32, 8, 1<<20),
		plan("2049", 1, 32, 3, 1<<20),
		plan("2048", 1, 32, 3, 1<<20),
		plan("277", 20, 32, 8, 1<<20), // about the logarithm of the whole
		plan("277", 20, 32, 8, 1<<20-1),
		plan("1/3", 7, 32, 2, 999),
		plan("5", 1000, 32, 8, 0),
		plan("5", 1000, 32, 8, 1),
		plan("1/"+tenPower(30), 1000, 32, 4, 1<<20),
		plan("1/"+tenPower(100), 1, 3, 4, 77),
		plan("1/"+tenPower(700), 1000, 32, 4, 1<<20),
		plan("1/"+tenPower(1500), 1, 1, 4, 1),
		plan(tenPower(700)+"/3"+tenPower(698)[1:]+"1", 9, 5, 2, 12345),
	}
	r := seeded()
	for range 60 {
		reach, _ := num.New(1+r.Int63n(1<<(3+r.Intn(40))), 1+r.Int63n(1<<(3+r.Intn(20))))
		if reach.Cmp(num.Int(1<<20)) > 0 {
			reach = num.Int(1 << 20)
		}
		l = append(l, foot.Plan{Reach: reach, Size: 1 + r.Intn(1000), Steps: 1 + r.Intn(32), Wide: r.Intn(9), Whole: r.Intn(1<<20 + 1)})
	}
	return l
}

// nearPlan is a plan with a Reach so near to Size times i times the logarithm of Whole/n that c(i) is n, or, if the Reach is above this number, n - 1.
func nearPlan(i, n, whole int, bits uint, above bool) foot.Plan {
	units := logarithm(whole, n, bits)
	if above {
		units.Add(units, big.NewInt(2))
	}
	p := foot.Plan{Size: 10, Steps: i + 1, Wide: 1, Whole: whole}
	ratio := new(big.Rat).SetFrac(units, power2(bits))
	p.Reach = fracOf(ratMul(ratio, ratOf(p.Size*i)))
	return p
}

func TestCheck(t *testing.T) {
	for _, c := range []struct {
		what string
		p    foot.Plan
		want api.Errno
	}{
		{"the example", plan("10", 10, 2, 1, 1000), api.OK},
		{"the least numbers", plan("1/"+tenPower(400), 1, 1, 0, 0), api.OK},
		{"the greatest numbers", plan("1048576", 1000, 32, 8, 1<<20), api.OK},
		{"no plan", foot.Plan{}, api.ErrArg},
		{"the Reach 0", plan("0", 10, 2, 1, 1000), api.ErrArg},
		{"a Reach below 0", plan("-1/1000", 10, 2, 1, 1000), api.ErrArg},
		{"a Reach far below 0", plan("-10", 10, 2, 1, 1000), api.ErrArg},
		{"a Reach hardly too great", plan("1048576"+tenPower(30)[1:]+"1/"+tenPower(30), 10, 2, 1, 1000), api.ErrArg},
		{"a Reach too great", plan("1048577", 10, 2, 1, 1000), api.ErrArg},
		{"a Reach far too great", plan(tenPower(300), 10, 2, 1, 1000), api.ErrArg},
		{"the Size 0", plan("10", 0, 2, 1, 1000), api.ErrArg},
		{"a Size below 0", plan("10", -1, 2, 1, 1000), api.ErrArg},
		{"a Size too great", plan("10", 1001, 2, 1, 1000), api.ErrArg},
		{"the greatest Size", plan("10", math.MaxInt, 2, 1, 1000), api.ErrArg},
		{"the least Size", plan("10", math.MinInt, 2, 1, 1000), api.ErrArg},
		{"no Steps", plan("10", 10, 0, 1, 1000), api.ErrArg},
		{"Steps below 0", plan("10", 10, -1, 1, 1000), api.ErrArg},
		{"Steps too many", plan("10", 10, 33, 1, 1000), api.ErrArg},
		{"the most Steps", plan("10", 10, math.MaxInt, 1, 1000), api.ErrArg},
		{"the least Steps", plan("10", 10, math.MinInt, 1, 1000), api.ErrArg},
		{"Wide below 0", plan("10", 10, 2, -1, 1000), api.ErrArg},
		{"Wide too great", plan("10", 10, 2, 9, 1000), api.ErrArg},
		{"the greatest Wide", plan("10", 10, 2, math.MaxInt, 1000), api.ErrArg},
		{"the least Wide", plan("10", 10, 2, math.MinInt, 1000), api.ErrArg},
		{"a Whole below 0", plan("10", 10, 2, 1, -1), api.ErrArg},
		{"a Whole too great", plan("10", 10, 2, 1, 1<<20+1), api.ErrArg},
		{"the greatest Whole", plan("10", 10, 2, 1, math.MaxInt), api.ErrArg},
		{"the least Whole", plan("10", 10, 2, 1, math.MinInt), api.ErrArg},
	} {
		isCode(t, "Check of "+c.what, foot.Check(c.p), c.want)
		l, left, e := foot.Upwind(c.p)
		isCode(t, "Upwind of "+c.what, e, c.want)
		isTrue(t, "Upwind has zero values with "+c.what, e == api.OK || len(l) == 0 && left == 0)
		m, left, e := foot.Map(c.p)
		isCode(t, "Map of "+c.what, e, c.want)
		isTrue(t, "Map has zero values with "+c.what, e == api.OK || len(m) == 0 && left == 0)
		n, e := foot.Fetch(c.p, 0, 7)
		isCode(t, "Fetch of "+c.what, e, c.want)
		isInt(t, "Fetch of nothing", n, 0)
		n, e = foot.Fetch(c.p, 8, 7)
		isCode(t, "Fetch of too much of "+c.what, e, api.ErrArg)
		isInt(t, "Fetch of too much", n, 0)
	}
}

func TestCumulated(t *testing.T) {
	for _, c := range []struct {
		reach, x string
		k        int
		want     string
		e        api.Errno
	}{
		{"1", "0", 3, "[0,0]", api.OK},
		{tenPower(90), "0", 256, "[0,0]", api.OK},
		{"1", "1", 3, "[1/4,3/8]", api.OK},
		{"1", "1", 0, "[0,1]", api.OK},
		{"1", "1", -9, "[0,1]", api.OK},
		{"2", "2/3", 5, "[1/32,1/16]", api.OK}, // 0.0497..
		{"10", "10", 3, "[1/4,3/8]", api.OK},
		{"1", "1000", 9, "[511/512,1]", api.OK},
		{"1/" + tenPower(99), tenPower(99), 2, "[3/4,1]", api.OK},
		{"64", "1", 8, "[0,1/256]", api.OK},
		{"1", "1/64", 8, "[0,1/256]", api.OK},
		{"65", "1", 8, "[0,0]", api.ErrArg},
		{"1", "1/65", 8, "[0,0]", api.ErrArg},
		{"64" + tenPower(50)[1:] + "1/" + tenPower(51), "1", 8, "[0,0]", api.ErrArg},
		{"1", "1/" + tenPower(70), 8, "[0,0]", api.ErrArg},
		{"0", "1", 8, "[0,0]", api.ErrArg},
		{"-1", "1", 8, "[0,0]", api.ErrArg},
		{"-1/" + tenPower(70), "1", 8, "[0,0]", api.ErrArg},
		{"1", "-1", 8, "[0,0]", api.ErrArg},
		{"1", "-1/" + tenPower(70), 8, "[0,0]", api.ErrArg},
		{"0", "0", 8, "[0,0]", api.ErrArg},
		{"-1", "0", 8, "[0,0]", api.ErrArg},
		{"-1", "-1", 8, "[0,0]", api.ErrArg},
	} {
		b, e := foot.Cumulated(frac(c.reach), frac(c.x), c.k)
		isCode(t, "Cumulated of "+c.reach+" and "+c.x, e, c.e)
		isText(t, "Cumulated of "+c.reach+" and "+c.x, b.Text(), c.want)
	}
}

func TestCumulatedModel(t *testing.T) {
	r := seeded()
	for range 300 {
		k := r.Intn(257)
		reach, _ := num.New(1+r.Int63n(1<<30), 1+r.Int63n(1<<20))
		x, _ := num.New(1+r.Int63n(1<<30), 1+r.Int63n(1<<20))
		ratio := ratQuo(rat(reach), rat(x))
		if ratio.Cmp(ratOf(64)) > 0 {
			b, e := foot.Cumulated(reach, x, k)
			isCode(t, "Cumulated near to the tower", e, api.ErrArg)
			isText(t, "Cumulated near to the tower", b.Text(), "[0,0]")
			continue
		}
		low := slowFallen(power2(uint(k)), ratio)
		high := new(big.Int).Add(low, big.NewInt(1))
		end := func(n *big.Int) string { return new(big.Rat).SetFrac(n, power2(uint(k))).RatString() }
		isText(t, "Cumulated", cumulated(t, reach, x, k).Text(), "["+end(low)+","+end(high)+"]")
	}
	most := cumulated(t, frac("3"), frac("7"), 256).Text()
	for _, k := range []int{257, 1000, math.MaxInt} {
		isText(t, "Cumulated with more bits than there are", cumulated(t, frac("3"), frac("7"), k).Text(), most)
	}
	isText(t, "Cumulated with the least bits", cumulated(t, frac("3"), frac("7"), math.MinInt).Text(), "[0,1]")
}

func TestCumulatedRises(t *testing.T) {
	r := seeded()
	for range 300 {
		k := r.Intn(40)
		reach, _ := num.New(1+r.Int63n(1<<20), 1+r.Int63n(1<<20))
		further := reach.Add(num.Int(r.Int63n(3)))
		x, _ := reach.Div(num.Int(1 + r.Int63n(50)))
		far := x.Mul(num.Int(1 + r.Int63n(3)))
		near := cumulated(t, reach, x, k)
		isTrue(t, "Cumulated rises with the distance", !lower(cumulated(t, reach, far, k), near))
		isTrue(t, "Cumulated is least at the tower", !lower(near, cumulated(t, reach, num.Frac{}, k)))
		if c, e := foot.Cumulated(further, x, k); e == api.OK {
			isTrue(t, "Cumulated falls with the reach", !lower(near, c))
		}
	}
}

// lower reports whether an end of a band is lower than that of another one.
func lower(a, b num.Band) bool {
	return a.Lo().Cmp(b.Lo()) < 0 || a.Hi().Cmp(b.Hi()) < 0
}

func TestUpwind(t *testing.T) {
	for _, c := range []struct {
		p    foot.Plan
		want []int
		left int
	}{
		{plan("10", 10, 2, 1, 1000), []int{367, 239}, 394},
		{plan("10", 10, 1, 1, 1000), []int{367}, 633},
		{plan("10", 5, 3, 0, 1000), []int{135, 232, 146}, 487}, // e^-2, e^-1 and e^(-2/3)
		{plan("10", 10, 2, 8, 0), []int{0, 0}, 0},
		{plan("10", 10, 2, 8, 1), []int{0, 0}, 1},
		{plan("1/"+tenPower(90), 1, 3, 8, 1), []int{0, 0, 0}, 1},
		{plan("1/"+tenPower(90), 1, 3, 8, 500), []int{499, 0, 0}, 1},
		{plan("1/"+tenPower(999), 1, 3, 8, 1<<20), []int{1<<20 - 1, 0, 0}, 1},
		{plan("65", 1, 2, 0, 1<<20), []int{0, 0}, 1 << 20},
		{plan("1048576", 1, 2, 0, 1<<20), []int{0, 0}, 1 << 20},
	} {
		l, left := upwind(t, c.p)
		isList(t, "Upwind", l, c.want)
		isInt(t, "Upwind left", left, c.left)
	}
}

func TestUpwindModel(t *testing.T) {
	for _, p := range plans() {
		want, wantLeft := slowUpwind(p)
		l, left := upwind(t, p)
		isList(t, "Upwind", l, want)
		isInt(t, "Upwind left", left, wantLeft)
	}
}

// Whole e^-r may be as near to an integer as a Reach with many digits makes it.
func TestUpwindNearIntegers(t *testing.T) {
	for _, bits := range []uint{30, 60, 120, 200, 230, 250, 270, 300, 500, 1000, 3300, 6000} {
		for _, c := range []struct{ i, n, whole int }{{1, 367, 1000}, {2, 606, 1000}, {3, 1, 1 << 20}, {31, 1<<20 - 1, 1 << 20}, {1, 1, 2}} {
			for _, above := range []bool{false, true} {
				p, want := nearPlan(c.i, c.n, c.whole, bits, above), c.n
				if above {
					want--
				}
				l, left := upwind(t, p)
				isInt(t, "Upwind near an integer", sumOf(l[:c.i]), want)
				model, modelLeft := slowUpwind(p)
				isList(t, "Upwind near an integer", l, model)
				isInt(t, "Upwind near an integer, left", left, modelLeft)
			}
		}
	}
}

func TestMapAndFetchNearIntegers(t *testing.T) {
	for _, bits := range []uint{40, 250, 300, 1000} {
		below, above := nearPlan(2, 500, 1000, bits, false), nearPlan(2, 500, 1000, bits, true)
		isInt(t, "Fetch of just half", right[int](t, "Fetch")(foot.Fetch(below, 1, 2)), 2)
		isInt(t, "Fetch of hardly less than half", right[int](t, "Fetch")(foot.Fetch(above, 1, 2)), 3)
		m, _ := mapOf(t, below)
		isInt(t, "the first rows of Map", sumOf(m[0])+sumOf(m[1]), 500)
		m, _ = mapOf(t, above)
		isInt(t, "the first rows of Map", sumOf(m[0])+sumOf(m[1]), 499)
	}
}

func TestUpwindIsWhole(t *testing.T) {
	for _, p := range plans() {
		l, left := upwind(t, p)
		isInt(t, "how many weights Upwind has", len(l), p.Steps)
		isInt(t, "Upwind with what is left", sumOf(l)+left, p.Whole)
		isTrue(t, "no weight is below 0", slices.Min(l) >= 0 && left >= 0)
		for steps := 1; steps < p.Steps; steps++ {
			short := p
			short.Steps = steps
			first, more := upwind(t, short)
			isList(t, "Upwind with fewer Steps", first, l[:steps])
			isTrue(t, "more Steps leave no more", left <= more)
		}
		for wide := range 9 {
			other := p
			other.Wide = wide
			same, sameLeft := upwind(t, other)
			isList(t, "Upwind with another Wide", same, l)
			isInt(t, "Upwind with another Wide, left", sameLeft, left)
		}
	}
}

func TestAcross(t *testing.T) {
	for _, c := range []struct {
		n, wide int
		want    []int
	}{
		{10, 1, []int{2, 5, 3}},
		{16, 2, []int{1, 4, 6, 4, 1}},
		{7, 0, []int{7}},
		{0, 0, []int{0}},
		{0, 2, []int{0, 0, 0, 0, 0}},
		{1, 1, []int{0, 0, 1}},
		{1 << 20, 1, []int{1 << 18, 1 << 19, 1 << 18}},
		{1 << 16, 8, []int{1, 16, 120, 560, 1820, 4368, 8008, 11440, 12870, 11440, 8008, 4368, 1820, 560, 120, 16, 1}},
	} {
		isList(t, "Across", across(t, c.n, c.wide), c.want)
	}
	r := seeded()
	for wide := range 9 {
		for _, n := range []int{0, 1, 2, 3, 9, 100, 1<<20 - 1, 1 << 20, r.Intn(1 << 20), r.Intn(1 << 20), r.Intn(1 << 10)} {
			l := across(t, n, wide)
			isList(t, "Across", l, slowAcross(n, wide))
			isInt(t, "Across together", sumOf(l), n)
			isTrue(t, "no weight is below 0", slices.Min(l) >= 0)
		}
	}
}

func TestAcrossErrors(t *testing.T) {
	for _, c := range [][2]int{{-1, 0}, {1<<20 + 1, 0}, {math.MaxInt, 8}, {math.MinInt, 8}, {5, -1}, {5, 9}, {5, math.MaxInt}, {5, math.MinInt}, {-1, -1}, {0, 9}} {
		l, e := foot.Across(c[0], c[1])
		isCode(t, "Across", e, api.ErrArg)
		isTrue(t, "Across has a zero value", len(l) == 0)
	}
}

func TestMap(t *testing.T) {
	m, left := mapOf(t, plan("10", 10, 2, 1, 10))
	isInt(t, "how many rows Map has", len(m), 2)
	isList(t, "the first row of Map", m[0], []int{0, 2, 1})
	isList(t, "the second row of Map", m[1], []int{0, 2, 1})
	isInt(t, "Map left", left, 4)
	for _, p := range plans() {
		l, beyond := slowUpwind(p)
		m, left := mapOf(t, p)
		isInt(t, "how many rows Map has", len(m), p.Steps)
		sum := 0
		for i, row := range m {
			isList(t, "a row of Map", row, slowAcross(l[i], p.Wide))
			isTrue(t, "no weight is below 0", slices.Min(row) >= 0)
			sum += sumOf(row)
		}
		isInt(t, "Map left", left, beyond)
		isInt(t, "Map with what is left", sum+left, p.Whole)
	}
}

func TestFetch(t *testing.T) {
	example := plan("10", 10, 2, 1, 1000)
	for _, c := range []struct {
		p              foot.Plan
		part, of, want int
		e              api.Errno
	}{
		{example, 1, 2, 2, api.OK},
		{example, 1, 3, 1, api.OK},
		{example, 0, 3, 0, api.OK},
		{example, 0, 1, 0, api.OK},
		{example, 2, 3, 0, api.ErrNone},
		{example, 1, 1, 0, api.ErrNone},
		{example, 367, 1000, 1, api.OK},
		{example, 368, 1000, 2, api.OK},
		{example, 606, 1000, 2, api.OK},
		{example, 607, 1000, 0, api.ErrNone},
		{plan("10", 10, 2, 1, 0), 1, 1, 0, api.OK},
		{plan("10", 10, 2, 1, 0), 1000, 1000, 0, api.OK},
		{plan("10", 10, 2, 1, 1), 1, 1000, 0, api.ErrNone},
		{plan("1/9", 1000, 2, 1, 1<<20), 999, 1000, 1, api.OK},
		{plan("1/9", 1000, 2, 1, 1<<20), 1000, 1000, 0, api.ErrNone},
		{example, 1, 0, 0, api.ErrArg},
		{example, 0, 0, 0, api.ErrArg},
		{example, 0, -1, 0, api.ErrArg},
		{example, -1, -1, 0, api.ErrArg},
		{example, 1, 1001, 0, api.ErrArg},
		{example, 0, math.MaxInt, 0, api.ErrArg},
		{example, 0, math.MinInt, 0, api.ErrArg},
		{example, -1, 3, 0, api.ErrArg},
		{example, 4, 3, 0, api.ErrArg},
		{example, math.MaxInt, 1000, 0, api.ErrArg},
		{example, math.MinInt, 1000, 0, api.ErrArg},
	} {
		n, e := foot.Fetch(c.p, c.part, c.of)
		isCode(t, "Fetch", e, c.e)
		isInt(t, "Fetch", n, c.want)
	}
}

func TestFetchModel(t *testing.T) {
	r := seeded()
	for _, p := range plans() {
		c := slowCumulated(p)
		for range 40 {
			of := 1 + r.Intn(1000)
			part := r.Intn(of + 1)
			want := slices.IndexFunc(c, func(n int) bool { return of*n >= part*p.Whole })
			n, e := foot.Fetch(p, part, of)
			if want < 0 {
				isCode(t, "Fetch of too much", e, api.ErrNone)
				want = 0
			} else {
				isCode(t, "Fetch", e, api.OK)
			}
			isInt(t, "Fetch", n, want)
		}
	}
}

func TestFootprintsAreNew(t *testing.T) {
	p := plan("10", 10, 2, 1, 1000)
	for range 2 {
		l, _ := upwind(t, p)
		isList(t, "Upwind", l, []int{367, 239})
		scribble(l, 99)
		l = across(t, 10, 1)
		isList(t, "Across", l, []int{2, 5, 3})
		scribble(l, 99)
		m, left := mapOf(t, p)
		isList(t, "the first row of Map", m[0], slowAcross(367, 1))
		scribble(m[0], 99)
		isList(t, "the second row of Map", m[1], slowAcross(239, 1))
		scribble(m[1], 99)
		isInt(t, "Map left", left, 394)
	}
}

// P1: no call panics, and an error comes alone.
func TestAnyFootprint(t *testing.T) {
	r := seeded()
	for range 3000 {
		reach, _ := num.New(int64(extreme(r)), int64(max(1, extreme(r))))
		p := foot.Plan{Reach: reach, Size: extreme(r), Steps: extreme(r), Wide: extreme(r), Whole: extreme(r)}
		if r.Intn(2) == 0 {
			p = plan("10", 10, 2, 1, 1000)
		}
		l, left, e := foot.Upwind(p)
		isTrue(t, "an error of Upwind comes alone", e == api.OK || len(l) == 0 && left == 0)
		m, left, e := foot.Map(p)
		isTrue(t, "an error of Map comes alone", e == api.OK || len(m) == 0 && left == 0)
		n, e := foot.Fetch(p, extreme(r), extreme(r))
		isTrue(t, "an error of Fetch comes alone", e == api.OK || n == 0)
		l, e = foot.Across(extreme(r), extreme(r))
		isTrue(t, "an error of Across comes alone", e == api.OK || len(l) == 0)
		x, _ := num.New(int64(extreme(r)), int64(max(1, extreme(r))))
		b, e := foot.Cumulated(reach, x, extreme(r))
		isTrue(t, "an error of Cumulated comes alone", e == api.OK || b.Text() == "[0,0]")
	}
}
