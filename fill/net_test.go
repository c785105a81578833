package fill_test

import (
	"math"
	"math/big"
	"math/rand"
	"slices"
	"testing"

	"fluxmast/api"
	"fluxmast/fill"
)

// P8.1 and P8.5: nets.

// net is a net with the Start and the Shift of two hidden units and two inputs.
func net(start, shift int) fill.Net {
	return fill.Net{Weights: [][]int{{1, -1}, {2, 3}}, Starts: []int{0, -4}, Last: []int{2, -1}, Start: start, Shift: shift}
}

// uniform is a net of which all numbers but the Shift are the same.
func uniform(units, inputs, x, shift int) fill.Net {
	n := fill.Net{Start: x, Shift: shift}
	for range units {
		n.Weights = append(n.Weights, slices.Repeat([]int{x}, inputs))
		n.Starts = append(n.Starts, x)
		n.Last = append(n.Last, x)
	}
	return n
}

// changed is a net with an array of its own, of which something is changed.
func changed(n fill.Net, change func(n *fill.Net)) fill.Net {
	n.Weights = slices.Clone(n.Weights)
	for i, row := range n.Weights {
		n.Weights[i] = slices.Clone(row)
	}
	n.Starts, n.Last = slices.Clone(n.Starts), slices.Clone(n.Last)
	change(&n)
	return n
}

// slowSums is all sums of a start and of one product of each weight, divided by 2^shift.
func slowSums(start *big.Int, weights []int, values [][]*big.Int, shift int) []*big.Int {
	sums := []*big.Int{start}
	for i, weight := range weights {
		var longer []*big.Int
		for _, sum := range sums {
			for _, value := range values[i] {
				product := new(big.Int).Mul(big.NewInt(int64(weight)), value)
				longer = append(longer, product.Add(product, sum))
			}
		}
		sums = longer
	}
	for i, sum := range sums {
		sums[i] = new(big.Int).Div(sum, power2(shift)) // rounds down
	}
	return sums
}

// ends is the least and the greatest number, and 0 instead of one below least.
func ends(l []*big.Int, least *big.Int) []*big.Int {
	compare := func(a, b *big.Int) int { return a.Cmp(b) }
	lo, hi := slices.MinFunc(l, compare), slices.MaxFunc(l, compare)
	if least != nil {
		lo, hi = slices.MaxFunc([]*big.Int{lo, least}, compare), slices.MaxFunc([]*big.Int{hi, least}, compare)
	}
	return []*big.Int{lo, hi}
}

func slowAnswers(n fill.Net, in []api.Range) api.Range {
	var values, hidden [][]*big.Int
	for _, x := range in {
		values = append(values, []*big.Int{big.NewInt(int64(x.Lo)), big.NewInt(int64(x.Hi))})
	}
	for i, row := range n.Weights {
		hidden = append(hidden, ends(slowSums(big.NewInt(int64(n.Starts[i])), row, values, n.Shift), new(big.Int)))
	}
	answer := ends(slowSums(big.NewInt(int64(n.Start)), n.Last, hidden, n.Shift), nil)
	return api.Range{Lo: int(answer[0].Int64()), Hi: int(answer[1].Int64())}
}

func alone(in []int) []api.Range {
	var l []api.Range
	for _, x := range in {
		l = append(l, api.Range{Lo: x, Hi: x})
	}
	return l
}

// randomSize is often a small number, and never one that is too great for a net.
func randomSize(r *rand.Rand) int {
	most := []int{1, 5, 100, 1 << 16}[r.Intn(4)]
	return r.Intn(2*most+1) - most
}

func randomNet(r *rand.Rand) fill.Net {
	n := uniform(1+r.Intn(8), 1+r.Intn(8), 0, []int{0, r.Intn(8), r.Intn(31)}[r.Intn(3)])
	for i, row := range n.Weights {
		for j := range row {
			n.Weights[i][j] = randomSize(r)
		}
		n.Starts[i], n.Last[i] = randomSize(r), randomSize(r)
	}
	n.Start = randomSize(r)
	return n
}

func randomRanges(r *rand.Rand, count int) []api.Range {
	l := make([]api.Range, count)
	for i := range l {
		x, y := randomSize(r), randomSize(r)
		l[i] = api.Range{Lo: min(x, y), Hi: max(x, y)}
	}
	return l
}

// inside is a range in another one.
func inside(r *rand.Rand, x api.Range) api.Range {
	lo := x.Lo + r.Intn(x.Hi-x.Lo+1)
	return api.Range{Lo: lo, Hi: lo + r.Intn(x.Hi-lo+1)}
}

func answersOf(t testing.TB, n fill.Net, in []api.Range) api.Range {
	t.Helper()
	return right[api.Range](t, "Answers")(fill.Answers(n, in))
}

func answerOf(t testing.TB, n fill.Net, in []int) int {
	t.Helper()
	return right[int](t, "Answer")(fill.Answer(n, in))
}

func TestAnswer(t *testing.T) {
	example := fill.Net{Weights: [][]int{{1, -1}}, Starts: []int{0}, Last: []int{2}, Start: 1}
	most := 1 << 16
	for _, c := range []struct {
		what string
		n    fill.Net
		in   []int
		want int
	}{
		{"the example", example, []int{3, 1}, 5},
		{"a hidden value that would be below 0", example, []int{1, 3}, 1},
		{"two hidden units", net(7, 0), []int{5, 1}, 7 + 2*4 - 9},
		{"two hidden units, one at 0", net(7, 0), []int{1, 5}, 7 - 13},
		{"a shift", net(7, 1), []int{5, 2}, 1}, // 3/2 and 12/2: half of 7 + 2 - 6
		{"a shift below 0", net(0, 1), []int{1, 2}, -1},
		{"a shift of a hidden value below 0", net(-3, 2), []int{0, 1}, -1}, // -1/4 and -1/4
		{"a shift to the next number", net(-4, 2), []int{0, 1}, -1},
		{"a shift behind the next number", net(-5, 2), []int{0, 1}, -2},
		{"a net of zeros", uniform(3, 5, 0, 30), []int{1, 2, 3, 4, 5}, 0},
		{"the greatest shift below 0", uniform(1, 1, -1, 30), []int{1}, -1},
		{"the greatest net", uniform(8, 8, most, 0), slices.Repeat([]int{most}, 8), most + 8*most*(most+8*most*most)},
		{"the greatest net, shifted", uniform(8, 8, most, 30), slices.Repeat([]int{most}, 8), 0}, // 32 and a bit
		{"the least inputs", uniform(8, 8, most, 0), slices.Repeat([]int{-most}, 8), most},
		{"the least net", uniform(8, 8, -most, 0), slices.Repeat([]int{-most}, 8), -most - 8*most*(8*most*most-most)},
	} {
		isInt(t, "Answer of "+c.what, answerOf(t, c.n, c.in), c.want)
		isList(t, "Answers of "+c.what, []api.Range{answersOf(t, c.n, alone(c.in))}, []api.Range{{Lo: c.want, Hi: c.want}})
		isCode(t, "CheckNet of "+c.what, fill.CheckNet(c.n), api.OK)
	}
}

func TestAnswers(t *testing.T) {
	example := fill.Net{Weights: [][]int{{1, -1}}, Starts: []int{0}, Last: []int{2}, Start: 1}
	opposite := changed(example, func(n *fill.Net) { n.Last[0] = -2 })
	both := fill.Net{Weights: [][]int{{1}, {1}}, Starts: []int{0, 0}, Last: []int{1, -1}}
	for _, c := range []struct {
		what string
		n    fill.Net
		in   []api.Range
		want api.Range
	}{
		{"the example", example, []api.Range{{Lo: 0, Hi: 2}, {Lo: 1, Hi: 1}}, api.Range{Lo: 1, Hi: 3}},
		{"more", example, []api.Range{{Lo: 3, Hi: 5}, {Lo: -1, Hi: 2}}, api.Range{Lo: 3, Hi: 13}},
		{"a last weight below 0", opposite, []api.Range{{Lo: 3, Hi: 5}, {Lo: -1, Hi: 2}}, api.Range{Lo: -11, Hi: -1}},
		{"all below 0", example, []api.Range{{Lo: -9, Hi: -5}, {Lo: 0, Hi: 3}}, api.Range{Lo: 1, Hi: 1}},
		{"one input twice", both, []api.Range{{Lo: 1, Hi: 4}}, api.Range{Lo: -3, Hi: 3}}, // though each number has the answer 0
		{"a shift", net(7, 1), []api.Range{{Lo: 4, Hi: 5}, {Lo: 2, Hi: 3}}, api.Range{Lo: 0, Hi: 2}},
	} {
		isList(t, "Answers of "+c.what, []api.Range{answersOf(t, c.n, c.in)}, []api.Range{c.want})
	}
}

func TestNetModel(t *testing.T) {
	r := seeded()
	for range 2000 {
		n := randomNet(r)
		in := randomRanges(r, len(n.Weights[0]))
		got := answersOf(t, n, in)
		isList(t, "Answers", []api.Range{got}, []api.Range{slowAnswers(n, in)})
		narrower := slices.Clone(in)
		var numbers []int
		for i, x := range in {
			narrower[i] = inside(r, x)
			numbers = append(numbers, inside(r, narrower[i]).Lo)
		}
		less := answersOf(t, n, narrower)
		isTrue(t, "Answers to narrower ranges lie in the others", got.Lo <= less.Lo && less.Lo <= less.Hi && less.Hi <= got.Hi)
		answer := answerOf(t, n, numbers)
		isTrue(t, "Answer lies in Answers", less.Lo <= answer && answer <= less.Hi)
		isList(t, "Answers to single numbers", []api.Range{answersOf(t, n, alone(numbers))}, []api.Range{{Lo: answer, Hi: answer}})
		isInt(t, "Answer", answer, slowAnswers(n, alone(numbers)).Lo)
	}
}

// Errors.

type netCase struct {
	what string
	n    fill.Net
	want api.Errno
}

func netCases() []netCase {
	great := 1<<16 + 1
	good := net(1, 0)
	short := changed(good, func(n *fill.Net) { n.Weights[1] = n.Weights[1][:1] })
	cases := []netCase{
		{"no net", fill.Net{}, api.ErrSize},
		{"two inputs", good, api.OK},
		{"the most units and inputs", uniform(8, 8, 1<<16, 30), api.OK},
		{"the least numbers", uniform(8, 8, -1<<16, 30), api.OK},
		{"one unit and input", uniform(1, 1, 1, 1), api.OK},
		{"nine units", uniform(9, 2, 1, 1), api.ErrSize},
		{"nine units that are too great", uniform(9, 2, great, 31), api.ErrSize},
		{"nine inputs", uniform(2, 9, 1, 1), api.ErrSize},
		{"no inputs", uniform(2, 0, 1, 1), api.ErrSize},
		{"no rows", changed(good, func(n *fill.Net) { n.Weights = nil }), api.ErrSize},
		{"no units, but a start", fill.Net{Weights: [][]int{}, Starts: []int{}, Last: []int{}, Start: 1}, api.ErrSize},
		{"a row too many", changed(good, func(n *fill.Net) { n.Weights = append(n.Weights, []int{1, 1}) }), api.ErrSize},
		{"a start too few", changed(good, func(n *fill.Net) { n.Starts = n.Starts[:1] }), api.ErrSize},
		{"a start too many", changed(good, func(n *fill.Net) { n.Starts = append(n.Starts, 1) }), api.ErrSize},
		{"no starts", changed(good, func(n *fill.Net) { n.Starts = nil }), api.ErrSize},
		{"a last weight too few", changed(good, func(n *fill.Net) { n.Last = n.Last[:1] }), api.ErrSize},
		{"a last weight too many", changed(good, func(n *fill.Net) { n.Last = append(n.Last, 1) }), api.ErrSize},
		{"a short last row", short, api.ErrSize},
		{"a long last row", changed(good, func(n *fill.Net) { n.Weights[1] = append(n.Weights[1], 1) }), api.ErrSize},
		{"a row of none", changed(good, func(n *fill.Net) { n.Weights[1] = nil }), api.ErrSize},
		{"a short last row, and a weight too great", changed(short, func(n *fill.Net) { n.Weights[0][0] = great }), api.ErrSize},
		{"a short last row, and a shift too great", changed(short, func(n *fill.Net) { n.Shift = 31 }), api.ErrSize},
		{"the shift 30", net(1, 30), api.OK},
	}
	for _, n := range []int{-1, 31, 64, math.MaxInt, math.MinInt} {
		cases = append(cases, netCase{"a shift that is none", net(1, n), api.ErrArg})
	}
	for _, x := range []int{great, -great, math.MaxInt, math.MinInt, math.MinInt + 1} {
		cases = append(cases,
			netCase{"a first weight too great", changed(good, func(n *fill.Net) { n.Weights[0][0] = x }), api.ErrArg},
			netCase{"a last weight of rows too great", changed(good, func(n *fill.Net) { n.Weights[1][1] = x }), api.ErrArg},
			netCase{"an element of Starts too great", changed(good, func(n *fill.Net) { n.Starts[1] = x }), api.ErrArg},
			netCase{"an element of Last too great", changed(good, func(n *fill.Net) { n.Last[0] = x }), api.ErrArg},
			netCase{"a Start too great", changed(good, func(n *fill.Net) { n.Start = x }), api.ErrArg})
	}
	return cases
}

func TestNetErrors(t *testing.T) {
	isError := func(what string, n fill.Net, in []api.Range, want api.Errno) {
		t.Helper()
		got, e := fill.Answers(n, in)
		isCode(t, "Answers with "+what, e, want)
		isTrue(t, "Answers has a zero value with "+what, e == api.OK || got == api.Range{})
		var numbers []int
		for _, x := range in {
			if x.Lo != x.Hi {
				return
			}
			numbers = append(numbers, x.Lo)
		}
		answer, e := fill.Answer(n, numbers)
		isCode(t, "Answer with "+what, e, want)
		isTrue(t, "Answer has a zero value with "+what, e == api.OK || answer == 0)
	}
	great := 1<<16 + 1
	for _, c := range netCases() {
		isCode(t, "CheckNet with "+c.what, fill.CheckNet(c.n), c.want)
		inputs := 0
		if len(c.n.Weights) > 0 {
			inputs = len(c.n.Weights[0])
		}
		isError(c.what, c.n, make([]api.Range, inputs), c.want)
		for _, count := range []int{0, inputs + 1, 99} {
			if count != inputs {
				isError(c.what+" and other inputs", c.n, make([]api.Range, count), firstOf(c.want, api.ErrSize))
				isError(c.what+" and other great inputs", c.n, slices.Repeat([]api.Range{{Lo: great, Hi: great}}, count), firstOf(c.want, api.ErrSize))
			}
		}
		isError(c.what+" and great inputs", c.n, slices.Repeat([]api.Range{{Lo: great, Hi: great}}, inputs), firstOf(c.want, limits(inputs, 0, 0)))
	}
}

func TestInputErrors(t *testing.T) {
	most, good := 1<<16, api.Range{Lo: 1, Hi: 2}
	for _, x := range []struct {
		bad  api.Range
		want api.Errno
	}{
		{api.Range{Lo: -most, Hi: most}, api.OK},
		{api.Range{Lo: most, Hi: most}, api.OK},
		{api.Range{Lo: -most, Hi: -most}, api.OK},
		{api.Range{Lo: most + 1, Hi: most + 1}, api.ErrArg},
		{api.Range{Lo: 0, Hi: most + 1}, api.ErrArg},
		{api.Range{Lo: -most - 1, Hi: 0}, api.ErrArg},
		{api.Range{Lo: -most - 1, Hi: -most - 1}, api.ErrArg},
		{api.Range{Lo: math.MinInt, Hi: math.MaxInt}, api.ErrArg},
		{api.Range{Lo: math.MinInt, Hi: 0}, api.ErrArg},
		{api.Range{Lo: most + 1, Hi: 0}, api.ErrArg},
		{api.Range{Lo: 0, Hi: -most - 1}, api.ErrArg},
		{api.Range{Lo: 1, Hi: 0}, api.ErrOrder},
		{api.Range{Lo: most, Hi: -most}, api.ErrOrder},
	} {
		for _, in := range [][]api.Range{{x.bad, good}, {good, x.bad}} {
			got, e := fill.Answers(net(1, 0), in)
			isCode(t, "Answers", e, x.want)
			isTrue(t, "Answers has a zero value", e == api.OK || got == api.Range{})
		}
		want := x.want
		if want != api.ErrArg {
			want = api.OK
		}
		for _, in := range [][]int{{x.bad.Lo, x.bad.Hi}, {x.bad.Hi, x.bad.Lo}} {
			got, e := fill.Answer(net(1, 0), in)
			isCode(t, "Answer", e, want)
			isTrue(t, "Answer has a zero value", e == api.OK || got == 0)
		}
	}
}

// The errors of Answer, for all ranges, come ahead of an order.
func TestOrderOfInputErrors(t *testing.T) {
	most := 1 << 16
	good, order := api.Range{Lo: 1, Hi: 2}, api.Range{Lo: 5, Hi: 3}
	atLimit := api.Range{Lo: most, Hi: -most}
	great, least := api.Range{Lo: 70000, Hi: 70000}, api.Range{Lo: -most - 1, Hi: 0}
	both := api.Range{Lo: most + 1, Hi: 0}
	for _, c := range []struct {
		in   []api.Range
		want api.Errno
	}{
		{[]api.Range{good, good, good}, api.OK},
		{[]api.Range{order, good, great}, api.ErrArg},
		{[]api.Range{order, great, good}, api.ErrArg},
		{[]api.Range{great, good, order}, api.ErrArg},
		{[]api.Range{order, order, least}, api.ErrArg},
		{[]api.Range{order, good, both}, api.ErrArg},
		{[]api.Range{atLimit, good, both}, api.ErrArg},
		{[]api.Range{{Lo: 0, Hi: -1}, {Lo: 0, Hi: most + 1}, good}, api.ErrArg},
		{[]api.Range{order, good, good}, api.ErrOrder},
		{[]api.Range{good, good, order}, api.ErrOrder},
		{[]api.Range{good, atLimit, order}, api.ErrOrder},
		{[]api.Range{order, great}, api.ErrSize},
		{[]api.Range{order, order, order, great}, api.ErrSize},
	} {
		got, e := fill.Answers(uniform(2, 3, 1, 0), c.in)
		isCode(t, "Answers", e, c.want)
		isTrue(t, "Answers has a zero value", e == api.OK || got == api.Range{})
		_, e = fill.Answers(uniform(2, 3, 1, 31), c.in)
		isCode(t, "Answers with a net that is none", e, api.ErrArg)
	}
}

// slowAnswersError is the error of Answer to all Los, then to all His, and then that of the order of both.
func slowAnswersError(n fill.Net, in []api.Range) api.Errno {
	var los, his []int
	want := api.OK
	for _, x := range in {
		los, his = append(los, x.Lo), append(his, x.Hi)
		if x.Lo > x.Hi {
			want = api.ErrOrder
		}
	}
	_, lo := fill.Answer(n, los)
	_, hi := fill.Answer(n, his)
	return firstOf(lo, hi, want)
}

func TestAnswersErrorModel(t *testing.T) {
	r := seeded()
	seen := map[api.Errno]int{}
	for range 5000 {
		n := randomNet(r)
		in := randomRanges(r, len(n.Weights[0]))
		for range r.Intn(4) {
			x := &in[r.Intn(len(in))]
			switch r.Intn(3) {
			case 0:
				x.Lo, x.Hi = x.Hi, x.Lo
			case 1:
				x.Lo = extreme(r)
			case 2:
				x.Hi = extreme(r)
			}
		}
		if r.Intn(20) == 0 {
			in = in[1:]
		}
		want := slowAnswersError(n, in)
		seen[want]++
		got, e := fill.Answers(n, in)
		isCode(t, "Answers", e, want)
		isTrue(t, "Answers has a zero value", e == api.OK || got == api.Range{})
	}
	for _, e := range []api.Errno{api.OK, api.ErrSize, api.ErrArg, api.ErrOrder} {
		isTrue(t, "each error of Answers is tried", seen[e] > 50)
	}
}

func TestNetsKeepTheirArguments(t *testing.T) {
	same := func(a, b int) bool { return a == b }
	row, sameRow := behind(t, []int{1, -1}, 77, same)
	starts, sameStarts := behind(t, []int{0}, 77, same)
	last, sameLast := behind(t, []int{2}, 77, same)
	in, sameIn := behind(t, []int{3, 1}, 77, same)
	ranges, sameRanges := behind(t, []api.Range{{Lo: 0, Hi: 2}, {Lo: 1, Hi: 1}}, api.Range{Lo: 7, Hi: 7}, func(a, b api.Range) bool { return a == b })
	n := fill.Net{Weights: [][]int{row}, Starts: starts, Last: last, Start: 1}
	for range 2 {
		isCode(t, "CheckNet", fill.CheckNet(n), api.OK)
		isInt(t, "Answer", answerOf(t, n, in), 5)
		isTrue(t, "Answers", answersOf(t, n, ranges) == api.Range{Lo: 1, Hi: 3})
	}
	sameRow()
	sameStarts()
	sameLast()
	sameIn()
	sameRanges()
}

// P1: no call panics, and an error comes alone.
func TestAnyNet(t *testing.T) {
	r := seeded()
	numbers := func() []int {
		l := make([]int, r.Intn(10))
		for i := range l {
			l[i] = []int{randomSize(r), extreme(r)}[r.Intn(2)]
		}
		return l
	}
	for range 5000 {
		n := randomNet(r)
		switch r.Intn(6) {
		case 0:
			n.Weights[r.Intn(len(n.Weights))] = numbers()
		case 1:
			n.Starts = numbers()
		case 2:
			n.Last = numbers()
		case 3:
			n.Start, n.Shift = extreme(r), extreme(r)
		}
		in, ranges := numbers(), make([]api.Range, r.Intn(10))
		for i := range ranges {
			ranges[i] = api.Range{Lo: extreme(r), Hi: extreme(r)}
		}
		check := fill.CheckNet(n)
		answer, e := fill.Answer(n, in)
		isTrue(t, "an error of Answer comes alone", e == api.OK || answer == 0)
		isTrue(t, "the error of a net comes first", check == api.OK || e == check)
		got, e := fill.Answers(n, ranges)
		isTrue(t, "an error of Answers comes alone", e == api.OK || got == api.Range{})
		isTrue(t, "the error of a net comes first", check == api.OK || e == check)
	}
}
