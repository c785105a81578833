package budget_test

import (
	"math"
	"math/rand"
	"slices"
	"testing"

	"fluxmast/api"
	"fluxmast/budget"
)

// P9.1, P9.4 and P9.5: books.

const (
	maxAmount  = 1 << 40
	maxBalance = 1 << 50
)

func entry(from, to, amount int) budget.Entry {
	return budget.Entry{From: from, To: to, Amount: amount}
}

func randomEntry(r *rand.Rand, accounts int) budget.Entry {
	from := r.Intn(accounts)
	return entry(from, (from+1+r.Intn(accounts-1))%accounts, randomInt(r, 0, maxAmount))
}

// randomEntries is entries of two or more accounts, or none.
func randomEntries(r *rand.Rand, accounts int) []budget.Entry {
	if accounts < 2 {
		return nil
	}
	l := make([]budget.Entry, []int{r.Intn(65), r.Intn(4), 64}[r.Intn(3)])
	for i := range l {
		l[i] = randomEntry(r, accounts)
	}
	return l
}

// carried is what accounts have behind all entries, one after the other.
func carried(opening []int, l []budget.Entry) []int {
	accounts := slices.Clone(opening)
	for _, x := range l {
		accounts[x.From] -= x.Amount
		accounts[x.To] += x.Amount
	}
	return accounts
}

func sum(l []int) int {
	total := 0
	for _, n := range l {
		total += n
	}
	return total
}

func totalsOf(t testing.TB, accounts int, l []budget.Entry) (in, out []int) {
	t.Helper()
	in, out, e := budget.Totals(accounts, l)
	isCode(t, "Totals", e, api.OK)
	return in, out
}

func differencesOf(t testing.TB, opening, closing []int, l []budget.Entry) []int {
	t.Helper()
	return right[[]int](t, "Differences")(budget.Differences(opening, closing, l))
}

func closesOf(t testing.TB, opening, closing []int, l []budget.Entry) bool {
	t.Helper()
	return right[bool](t, "Closes")(budget.Closes(opening, closing, l))
}

func TestTotals(t *testing.T) {
	l := []budget.Entry{entry(0, 1, 3), entry(1, 2, 2), entry(0, 2, 4)}
	for _, c := range []struct {
		what     string
		accounts int
		l        []budget.Entry
		in, out  []int
	}{
		{"three accounts", 3, l, []int{0, 3, 6}, []int{7, 2, 0}},
		{"one more account", 4, l, []int{0, 3, 6, 0}, []int{7, 2, 0, 0}},
		{"entries of nothing", 2, []budget.Entry{entry(0, 1, 0), entry(1, 0, 0)}, []int{0, 0}, []int{0, 0}},
		{"no list", 2, nil, []int{0, 0}, []int{0, 0}},
		{"an empty list", 1, []budget.Entry{}, []int{0}, []int{0}},
		{"there and back", 2, []budget.Entry{entry(0, 1, 5), entry(1, 0, 5)}, []int{5, 5}, []int{5, 5}},
		{"the same again", 2, []budget.Entry{entry(1, 0, 5), entry(1, 0, 5)}, []int{10, 0}, []int{0, 10}},
		{"the most", 8, slices.Repeat([]budget.Entry{entry(7, 0, maxAmount)}, 64), []int{1 << 46, 0, 0, 0, 0, 0, 0, 0}, []int{0, 0, 0, 0, 0, 0, 0, 1 << 46}},
	} {
		in, out := totalsOf(t, c.accounts, c.l)
		isList(t, "what came, "+c.what, in, c.in)
		isList(t, "what left, "+c.what, out, c.out)
	}
}

// entriesCase is accounts and entries with their error.
type entriesCase struct {
	what     string
	accounts int
	l        []budget.Entry
	want     api.Errno
}

func entriesCases() []entriesCase {
	good := entry(0, 1, 5)
	wrong, same := entry(0, 1, -1), entry(1, 1, 5)
	cases := []entriesCase{
		{"no account", 0, nil, api.ErrSize},
		{"no account, and a wrong entry", 0, []budget.Entry{wrong}, api.ErrSize},
		{"nine accounts", 9, nil, api.ErrSize},
		{"nine accounts, and a wrong entry", 9, []budget.Entry{wrong}, api.ErrSize},
		{"one account", 1, nil, api.OK},
		{"eight accounts", 8, []budget.Entry{entry(7, 6, 1)}, api.OK},
		{"64 entries", 2, slices.Repeat([]budget.Entry{good}, 64), api.OK},
		{"65 entries", 2, slices.Repeat([]budget.Entry{good}, 65), api.ErrSize},
		{"65 wrong entries", 2, slices.Repeat([]budget.Entry{wrong}, 65), api.ErrSize},
		{"65 entries from an account to itself", 2, slices.Repeat([]budget.Entry{same}, 65), api.ErrSize},
		{"the least amount", 2, []budget.Entry{entry(0, 1, 0)}, api.OK},
		{"the greatest amount", 2, []budget.Entry{entry(0, 1, maxAmount)}, api.OK},
		{"from an account to itself", 2, []budget.Entry{same}, api.ErrTwice},
		{"from the first account to itself", 2, []budget.Entry{{}}, api.ErrTwice},
		{"from the only account to itself", 1, []budget.Entry{{}}, api.ErrTwice},
		{"from no account to itself", 2, []budget.Entry{entry(2, 2, 5)}, api.ErrArg},
		{"a wrong amount from an account to itself", 2, []budget.Entry{entry(1, 1, -1)}, api.ErrArg},
		{"from the only account", 1, []budget.Entry{good}, api.ErrArg},
		{"a wrong entry behind one from an account to itself", 2, []budget.Entry{good, same, wrong}, api.ErrTwice},
		{"a wrong entry ahead of one from an account to itself", 2, []budget.Entry{good, wrong, same}, api.ErrArg},
		{"a wrong last entry", 2, with(slices.Repeat([]budget.Entry{good}, 64), 63, wrong), api.ErrArg},
		{"a last entry from an account to itself", 2, with(slices.Repeat([]budget.Entry{good}, 64), 63, same), api.ErrTwice},
	}
	for _, n := range outside(0, 1) {
		cases = append(cases, entriesCase{"a wrong From", 2, []budget.Entry{good, entry(n, 1, 5)}, api.ErrArg})
		cases = append(cases, entriesCase{"a wrong To", 2, []budget.Entry{good, entry(0, n, 5)}, api.ErrArg})
	}
	for _, n := range outside(0, maxAmount) {
		cases = append(cases, entriesCase{"a wrong Amount", 2, []budget.Entry{good, entry(0, 1, n)}, api.ErrArg})
	}
	return cases
}

func TestEntriesErrors(t *testing.T) {
	for _, c := range entriesCases() {
		in, out, e := budget.Totals(c.accounts, c.l)
		isCode(t, "Totals with "+c.what, e, c.want)
		isTrue(t, "an error of Totals comes alone, "+c.what, e == api.OK || len(in) == 0 && len(out) == 0)
		opening := make([]int, c.accounts)
		differencesError(t, c.what, opening, opening, c.l, c.want)
		if c.want != api.OK { // It comes ahead of what is wrong with closing and opening.
			differencesError(t, c.what+" and a longer closing", opening, make([]int, c.accounts+1), c.l, c.want)
			far := slices.Repeat([]int{maxBalance + 1}, c.accounts)
			differencesError(t, c.what+" and too great accounts", far, far, c.l, c.want)
		}
	}
}

// differencesError tests the error of Differences and Closes.
func differencesError(t testing.TB, what string, opening, closing []int, l []budget.Entry, want api.Errno) {
	t.Helper()
	differences, e := budget.Differences(opening, closing, l)
	isCode(t, "Differences with "+what, e, want)
	isTrue(t, "an error of Differences comes alone, "+what, e == api.OK || len(differences) == 0)
	closes, e := budget.Closes(opening, closing, l)
	isCode(t, "Closes with "+what, e, want)
	isTrue(t, "an error of Closes comes alone, "+what, e == api.OK || !closes)
}

func TestAccountsErrors(t *testing.T) {
	for _, c := range []struct {
		what             string
		opening, closing []int
		want             api.Errno
	}{
		{"no opening", nil, []int{1}, api.ErrSize},
		{"no account at all", nil, nil, api.ErrSize},
		{"no closing", []int{1}, nil, api.ErrSize},
		{"a shorter closing", []int{1, 2}, []int{1}, api.ErrSize},
		{"a longer closing", []int{1, 2}, []int{1, 2, 3}, api.ErrSize},
		{"nine openings", make([]int, 9), make([]int, 9), api.ErrSize},
		{"nine openings, and eight closings", make([]int, 9), make([]int, 8), api.ErrSize},
		{"eight openings, and nine closings", make([]int, 8), make([]int, 9), api.ErrSize},
		{"eight of both", make([]int, 8), make([]int, 8), api.OK},
		{"the greatest openings", []int{maxBalance, -maxBalance}, []int{0, 0}, api.OK},
		{"the greatest closings", []int{0, 0}, []int{maxBalance, -maxBalance}, api.OK},
		{"a great opening, and a shorter closing", []int{1, maxBalance + 1}, []int{1}, api.ErrSize},
	} {
		differencesError(t, c.what, c.opening, c.closing, nil, c.want)
	}
	for _, n := range outside(-maxBalance, maxBalance) {
		for i := range 3 {
			good, far := []int{5, 6, 7}, with([]int{5, 6, 7}, i, n)
			differencesError(t, "a wrong opening", far, good, nil, api.ErrArg)
			differencesError(t, "a wrong closing", good, far, nil, api.ErrArg)
			differencesError(t, "a wrong opening and closing", far, far, nil, api.ErrArg)
		}
	}
}

func TestDifferences(t *testing.T) {
	l := []budget.Entry{entry(0, 1, 3), entry(1, 2, 2), entry(0, 2, 4)}
	for _, c := range []struct {
		what             string
		opening, closing []int
		l                []budget.Entry
		want             []int
	}{
		{"the example", []int{5, 0}, []int{2, 4}, l[:1], []int{0, 1}},
		{"three accounts", []int{10, 0, -1}, []int{3, 1, 6}, l, []int{0, 0, 1}},
		{"a book that closes", []int{10, 0, -1}, []int{3, 1, 5}, l, []int{0, 0, 0}},
		{"differences that are 0 together", []int{10, 0, -1}, []int{4, 0, 5}, l, []int{1, -1, 0}},
		{"a last difference", []int{10, 0, -1}, []int{3, 1, 4}, l, []int{0, 0, -1}},
		{"a first difference", []int{10, 0, -1}, []int{2, 1, 5}, l, []int{-1, 0, 0}},
		{"no entries", []int{10, 0, -1}, []int{10, 1, -3}, nil, []int{0, 1, -2}},
		{"the most", []int{maxBalance, -maxBalance}, []int{-maxBalance, maxBalance}, slices.Repeat([]budget.Entry{entry(1, 0, maxAmount)}, 64), []int{-1<<51 - 1<<46, 1<<51 + 1<<46}},
	} {
		isList(t, "Differences of "+c.what, differencesOf(t, c.opening, c.closing, c.l), c.want)
		closes := slices.Equal(c.want, make([]int, len(c.want)))
		isTrue(t, "Closes of "+c.what, closesOf(t, c.opening, c.closing, c.l) == closes)
	}
}

func TestBooks(t *testing.T) {
	r := seeded()
	for range 500 {
		accounts := 1 + r.Intn(8)
		l := randomEntries(r, accounts)
		opening, closing := randomInts(r, accounts, -maxBalance, maxBalance), randomInts(r, accounts, -maxBalance, maxBalance)
		in, out := totalsOf(t, accounts, l)
		isInt(t, "what came to all is what left all", sum(in), sum(out))
		behind := carried(opening, l)
		differences := differencesOf(t, opening, closing, l)
		for i := range accounts {
			isInt(t, "what came less what left", in[i]-out[i], behind[i]-opening[i])
			isInt(t, "Differences", differences[i], closing[i]-behind[i])
		}
		isInt(t, "Differences together", sum(differences), sum(closing)-sum(opening))
		isTrue(t, "a book closes exactly if closing is opening with all entries", closesOf(t, opening, closing, l) == slices.Equal(closing, behind))
		other := shuffled(r, l)
		in2, out2 := totalsOf(t, accounts, other)
		isList(t, "Totals in another order", in2, in)
		isList(t, "Totals in another order", out2, out)
		isList(t, "Differences in another order", differencesOf(t, opening, closing, other), differences)
	}
}

func TestClosedBooks(t *testing.T) {
	r := seeded()
	for range 500 {
		accounts := 2 + r.Intn(7)
		opening, l := randomInts(r, accounts, -1000, 1000), randomEntries(r, accounts)
		closing := carried(opening, l)
		isTrue(t, "opening with all entries closes", closesOf(t, opening, closing, l))
		wrong := slices.Clone(closing)
		wrong[r.Intn(accounts)] += 1 - 2*r.Intn(2)
		isTrue(t, "a single one more or less does not close", !closesOf(t, opening, wrong, l))
		if len(l) == 64 {
			continue
		}
		// One entry more changes just those of its two accounts.
		more := randomEntry(r, accounts)
		want := make([]int, accounts)
		want[more.From], want[more.To] = more.Amount, -more.Amount
		isList(t, "Differences with one entry more", differencesOf(t, opening, closing, append(slices.Clone(l), more)), want)
	}
}

func TestCarbon(t *testing.T) {
	most, least := slices.Repeat([]int{maxAmount}, 48), slices.Repeat([]int{-maxAmount}, 48)
	for _, c := range []struct {
		what           string
		breath, uptake []int
		exchange       []int
		want           []int
		together       int
		code           api.Errno
	}{
		{"two runs", []int{5, 3}, []int{7, 0}, []int{-2, 1}, []int{0, 2}, 2, api.OK},
		{"differences that are 0 together", []int{5, 3}, []int{0, 0}, []int{4, 4}, []int{1, -1}, 0, api.OK},
		{"no run", nil, nil, nil, nil, 0, api.OK},
		{"empty lists", []int{}, nil, []int{}, nil, 0, api.OK},
		{"the most", most, least, least, slices.Repeat([]int{3 << 40}, 48), 144 << 40, api.OK},
		{"the least", least, most, most, slices.Repeat([]int{-3 << 40}, 48), -144 << 40, api.OK},
		{"49 runs", make([]int, 49), make([]int, 49), make([]int, 49), nil, 0, api.ErrSize},
		{"49 runs of breath", make([]int, 49), make([]int, 48), make([]int, 48), nil, 0, api.ErrSize},
		{"a shorter uptake", []int{5, 3}, []int{7}, []int{-2, 1}, nil, 0, api.ErrSize},
		{"a longer uptake", []int{5, 3}, []int{7, 0, 1}, []int{-2, 1}, nil, 0, api.ErrSize},
		{"no uptake", []int{5, 3}, nil, []int{-2, 1}, nil, 0, api.ErrSize},
		{"a shorter exchange", []int{5, 3}, []int{7, 0}, []int{-2}, nil, 0, api.ErrSize},
		{"a longer exchange", []int{5, 3}, []int{7, 0}, []int{-2, 1, 1}, nil, 0, api.ErrSize},
		{"no exchange", []int{5, 3}, []int{7, 0}, nil, nil, 0, api.ErrSize},
		{"no breath", nil, []int{7}, []int{7}, nil, 0, api.ErrSize},
		{"a shorter exchange, and a wrong uptake", []int{5, 3}, []int{7, math.MinInt}, []int{-2}, nil, 0, api.ErrSize},
	} {
		got, together, e := budget.Carbon(c.breath, c.uptake, c.exchange)
		isCode(t, "Carbon of "+c.what, e, c.code)
		isList(t, "Carbon of "+c.what, got, c.want)
		isInt(t, "Carbon together of "+c.what, together, c.together)
	}
	for _, n := range outside(-maxAmount, maxAmount) {
		for list := range 3 {
			for run := range 3 {
				in := [3][]int{{5, 6, 7}, {5, 6, 7}, {5, 6, 7}}
				in[list][run] = n
				got, together, e := budget.Carbon(in[0], in[1], in[2])
				isCode(t, "Carbon of a wrong number", e, api.ErrArg)
				isTrue(t, "an error of Carbon comes alone", len(got) == 0 && together == 0)
			}
		}
	}
}

func TestCarbonModel(t *testing.T) {
	r := seeded()
	for range 500 {
		runs := r.Intn(49)
		breath, uptake, exchange := randomInts(r, runs, -maxAmount, maxAmount), randomInts(r, runs, -maxAmount, maxAmount), randomInts(r, runs, -maxAmount, maxAmount)
		got, together, e := budget.Carbon(breath, uptake, exchange)
		isCode(t, "Carbon", e, api.OK)
		isInt(t, "Carbon together", together, sum(got))
		isInt(t, "the runs of Carbon", len(got), runs)
		for i, n := range got {
			isInt(t, "Carbon", n, breath[i]-uptake[i]-exchange[i])
			breath[i], exchange[i] = breath[i]/2, exchange[i]/2
			uptake[i] = breath[i] - exchange[i]
		}
		got, together, e = budget.Carbon(breath, uptake, exchange)
		isCode(t, "Carbon of what is parted", e, api.OK)
		isList(t, "Carbon of what is parted", got, make([]int, runs))
		isInt(t, "Carbon together of what is parted", together, 0)
	}
}

func TestBooksKeepTheirArguments(t *testing.T) {
	l, same := behind(t, []budget.Entry{entry(0, 1, 3), entry(1, 2, 2)}, entry(7, 7, 7), equal)
	opening, sameOpening := behind(t, []int{10, 0, -1}, 77, equal)
	closing, sameClosing := behind(t, []int{3, 1, 6}, 77, equal)
	for range 2 {
		in, out := totalsOf(t, 3, l)
		scribble(in, 99)
		isList(t, "what left", out, []int{3, 2, 0})
		scribble(out, 99)
		differences := differencesOf(t, opening, closing, l)
		isList(t, "Differences", differences, []int{-4, 0, 5})
		scribble(differences, 99)
		isTrue(t, "Closes", !closesOf(t, opening, closing, l))
		carbon, _, e := budget.Carbon(opening, closing, opening)
		isCode(t, "Carbon", e, api.OK)
		isList(t, "Carbon", carbon, []int{-3, -1, -6})
		scribble(carbon, 99)
	}
	same()
	sameOpening()
	sameClosing()
}

// P1: no call panics, and an error comes alone.
func TestAnyBooks(t *testing.T) {
	r := seeded()
	for range 3000 {
		l := []budget.Entry{randomEntry(r, 3), entry(extreme(r), extreme(r), extreme(r))}
		in, out, e := budget.Totals(extreme(r), l)
		isTrue(t, "an error of Totals comes alone", e == api.OK || len(in) == 0 && len(out) == 0)
		opening, closing := extremes(r, r.Intn(10)), extremes(r, r.Intn(10))
		differences, e := budget.Differences(opening, closing, l[:r.Intn(3)])
		isTrue(t, "an error of Differences comes alone", e == api.OK || len(differences) == 0)
		carbon, together, e := budget.Carbon(opening, closing, extremes(r, len(opening)))
		isTrue(t, "an error of Carbon comes alone", e == api.OK || len(carbon) == 0 && together == 0)
	}
}
