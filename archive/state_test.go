package archive_test

import (
	"math/rand"
	"slices"
	"strconv"
	"strings"
	"testing"

	"fluxmast/api"
	"fluxmast/archive"
	"fluxmast/num"
)

// P10.3, P10.4 and P10.5: functions, corrections and secrets.

// network is an archive with sources, chains and numbers that rest on each other, most of them for every correction.
func network(t testing.TB, r *rand.Rand) *archive.Archive {
	t.Helper()
	a := made(t, "hand bob analyst", "chain neg ann $1 neg", "chain mean ann $1 $2 + 2 /", "chain five ann 5", "chain ratio bob $1 $2 /")
	for i := range 20 {
		x := strconv.Itoa(i)
		items := words(a.Answer("items"))
		a.Do("data e" + x + " tom " + strconv.Itoa(r.Intn(5)))
		a.Do("cal f" + x + " lea 1/" + strconv.Itoa(2+r.Intn(5)))
		a.Do("number m" + x + " ann " + pick(r, "neg ", "mean ", "five", "scale ", "ratio ") + strings.Join([]string{pick(r, items...), pick(r, items...)}[:r.Intn(3)], " "))
		a.Do("number m" + x + " " + pick(r, "ann", "bob") + " " + pick(r, "scale ", "mean ", "ratio ") + pick(r, items...) + " " + pick(r, items...))
		a.Do("embargo " + pick(r, items...) + " oli " + pick(r, "ann", "bob", "tom"))
		if i%5 == 4 {
			a.Do("release " + pick(r, items...) + " oli")
		}
	}
	return a
}

// valueOf is the value of a source or a number.
func valueOf(a *archive.Archive, item string) num.Frac {
	for _, x := range a.Sources() {
		if x.Name == item {
			return frac(x.Value)
		}
	}
	return frac(numberOf(a, item).Value)
}

func isFunctions(t testing.TB, a *archive.Archive) {
	t.Helper()
	for _, n := range a.Numbers() {
		var inputs []num.Frac
		for _, x := range n.Inputs {
			inputs = append(inputs, valueOf(a, x))
		}
		for _, c := range a.Chains() {
			if c.Name == n.Chain {
				x := right[num.Frac](t, "Evaluate")(archive.Evaluate(c.Text, inputs))
				isText(t, "the value of "+n.Name, n.Value, x.Text())
			}
		}
	}
}

// correction is a random new version of an item, as a line.
func correction(r *rand.Rand, a *archive.Archive) (string, string) {
	items := []string{"d1", "c1", "neg", "mean", "scale", "ratio", "five"}
	for _, x := range a.Sources() {
		items = append(items, x.Name, x.Name)
	}
	item := pick(r, items...)
	value := pick(r, "0", "0", "1", "-7/3", "12", digits(30), digits(150))
	switch {
	case item[0] == 'd' || item[0] == 'e':
		return "data " + item + " tom " + value, item
	case item == "c1" || item[0] == 'f' && item != "five":
		return "cal " + item + " lea " + value, item
	}
	text := map[string][]string{"neg": {"$1 neg", "$1 1 +"}, "mean": {"$1 $2 + 3 /", "$1 $2 max"}, "scale": {"$1 $2 *", "$2"}, "ratio": {"$1 $2 /", "$2 $1 /"}, "five": {"5", "6"}}
	return "chain " + item + " bob " + pick(r, text[item]...), item
}

func TestCorrections(t *testing.T) {
	r := seeded()
	done, failed := 0, 0
	for range 60 {
		a := network(t, r)
		isFunctions(t, a)
		for range 20 {
			line, item := correction(r, a)
			before, rests := a.Numbers(), right[[]string](t, "Rests")(a.Rests(item))
			was := all(a)
			if e := a.Do(line); e != api.OK {
				isTrue(t, line+": an error of Evaluate", e == api.ErrZero || e == api.ErrFull)
				isTrue(t, line+": nothing has changed", was.isSame(all(a)))
				failed++
				continue
			}
			done++
			isFunctions(t, a)
			for i, n := range a.Numbers() {
				raised := 0
				if slices.Contains(rests, n.Name) {
					raised, before[i].Value = 1, n.Value
				}
				before[i].Version += raised
				isTrue(t, n.Name+": nothing else has changed", sameNumber(n, before[i]))
			}
			isList(t, "nothing rests on something else", right[[]string](t, "Rests")(a.Rests(item)), rests)
		}
	}
	isTrue(t, "corrections with and without errors were seen", done > 100 && failed > 20)
}

func TestTracesAndRests(t *testing.T) {
	r := seeded()
	pairs := 0
	for range 30 {
		a := network(t, r)
		for _, n := range a.Numbers() {
			trace := right[[]string](t, "Trace")(a.Trace(n.Name))
			var named []string
			for _, item := range words(a.Answer("items")) {
				rests := right[[]string](t, "Rests")(a.Rests(item))
				at := slices.IndexFunc(trace, func(s string) bool { return strings.HasPrefix(s, item+"@") })
				isTrue(t, item+" is in the trace of "+n.Name+" exactly if this is in its rests", slices.Contains(rests, n.Name) == (at >= 0))
				if at >= 0 {
					named = append(named, trace[at])
					pairs++
				}
			}
			isList(t, "the trace is in the order of the items", trace, named)
		}
	}
	isTrue(t, "pairs were seen", pairs > 500)
}

func TestRestsAndTrace(t *testing.T) {
	a := made(t, "chain neg ann $1 neg", "chain alone ann 1", "data d2 tom 4", "number n2 ann neg n1", "number n3 ann neg d2", "number n4 ann scale n2 d2", "number n5 ann alone")
	for item, want := range map[string]string{"d1": "n1 n2 n4", "c1": "n1 n2 n4", "d2": "n3 n4", "scale": "n1 n2 n4", "neg": "n2 n3 n4", "alone": "n5", "n1": "n2 n4", "n2": "n4", "n3": "", "n4": "", "n5": ""} {
		l := right[[]string](t, "Rests "+item)(a.Rests(item))
		isText(t, "Rests "+item, strings.Join(l, " "), want)
	}
	does(t, a, "cal c1 lea 7", "data d2 tom 5")
	for number, want := range map[string]string{
		"n1": "d1@1 c1@2 scale@1", "n2": "d1@1 c1@2 scale@1 neg@1 n1@2", "n3": "d2@2 neg@1", "n4": "d1@1 c1@2 d2@2 scale@1 neg@1 n1@2 n2@2", "n5": "alone@1",
	} {
		l := right[[]string](t, "Trace "+number)(a.Trace(number))
		isText(t, "Trace "+number, strings.Join(l, " "), want)
	}
	isText(t, "n4 was recomputed once for each", a.Answer("ask ann n4"), "-105 3")
	for _, name := range []string{"none", "", "tom", "D1"} {
		l, e := a.Rests(name)
		isCode(t, "Rests "+name, e, api.ErrNone)
		isInt(t, "Rests with an error", len(l), 0)
	}
	for _, name := range []string{"none", "", "tom", "d1", "c1", "scale"} {
		l, e := a.Trace(name)
		isCode(t, "Trace "+name, e, api.ErrNone)
		isInt(t, "Trace with an error", len(l), 0)
	}
}

// The first number in order has the first error.
func TestRecomputeOrder(t *testing.T) {
	a := made(t, "chain square ann $1 dup *", "chain inverse ann 1 $1 /", "data d2 tom 1", "number big ann square d2", "number less ann scale d2 d2")
	does(t, a, "chain twist ann $1 1 - 1 swap /", "data d3 tom 5", "number first ann square d3", "number then ann twist d3")
	fails(t, a, "data d3 tom 1", api.ErrZero)
	fails(t, a, "data d3 tom "+digits(150), api.ErrFull)
	b := made(t, "chain two ann $1 dup *", "chain one ann 1 $1 /", "data x tom 5", "number p ann one x", "number q ann two x")
	fails(t, b, "data x tom 0", api.ErrZero)
	fails(t, b, "data x tom "+digits(200), api.ErrFull)
	does(t, b, "chain gap ann $1 "+digits(150)+" - 1 swap /", "number r ann gap x")
	fails(t, b, "data x tom "+digits(150), api.ErrFull) // q is ahead of r, which divides by 0
	c := made(t, "data x tom 5", "chain gap ann $1 "+digits(150)+" - 1 swap /", "chain two ann $1 dup *", "number r ann gap x", "number q ann two x")
	fails(t, c, "data x tom "+digits(150), api.ErrZero)
	does(t, c, "data x tom 6")
}

// Numbers that rest on each other by many ways are found at once.
func TestManyWays(t *testing.T) {
	a := made(t, "chain many ann $1 $2 $3 $4 $5 $6 $7 $8 max max max max max max max", "number x0 ann many"+strings.Repeat(" d1", 8))
	for i := 1; len(words(a.Answer("items"))) < 64; i++ {
		does(t, a, "number x"+strconv.Itoa(i)+" ann many"+strings.Repeat(" x"+strconv.Itoa(i-1), 8))
	}
	does(t, a, "data d1 tom 77", "release x50 oli")
	isText(t, "the last one", a.Answer("ask ann x50"), "77 2")
	isInt(t, "its trace", len(right[[]string](t, "Trace")(a.Trace("x50"))), 52)
	isInt(t, "what rests on d1", len(right[[]string](t, "Rests")(a.Rests("d1"))), len(a.Numbers()))
	s := right[string](t, "Papers")(a.Papers("x50"))
	right[archive.Paper](t, "CheckPapers")(archive.CheckPapers(s))
}

func TestAsk(t *testing.T) {
	a := made(t, "hand bob analyst")
	asks := func(hand string, want api.Errno) {
		t.Helper()
		value, version, e := a.Ask(hand, "n1")
		isCode(t, hand+" asks", e, want)
		n := numberOf(a, "n1")
		if want != api.OK {
			n = archive.Number{}
		}
		isTrue(t, "value and version", value == n.Value && version == n.Version)
	}
	everybody := []string{"tom", "lea", "oli", "bob", "nobody", "", "ANN", "n1"}
	asks("ann", api.OK)
	for _, hand := range everybody {
		asks(hand, api.ErrSecret)
	}
	does(t, a, "embargo n1 oli tom bob", "data d1 tom 4")
	for _, hand := range everybody {
		asks(hand, map[bool]api.Errno{true: api.OK, false: api.ErrSecret}[hand == "tom" || hand == "bob"])
	}
	asks("ann", api.OK)
	does(t, a, "embargo n1 oli lea")
	asks("lea", api.OK)
	asks("tom", api.ErrSecret)
	asks("bob", api.ErrSecret)
	asks("ann", api.OK)
	does(t, a, "release n1 oli")
	for _, hand := range everybody {
		asks(hand, api.OK)
	}
	for _, name := range []string{"none", "", "d1", "scale", "tom"} {
		value, version, e := a.Ask("ann", name)
		isCode(t, "Ask "+name, e, api.ErrNone)
		isTrue(t, "nothing with an error", value == "" && version == 0)
	}
}

func TestSecretInputs(t *testing.T) {
	a := made(t, "hand bob analyst", "chain same bob $1")
	fails(t, a, "number m bob same n1", api.ErrSecret)
	does(t, a, "embargo n1 oli tom")
	fails(t, a, "number m bob same n1", api.ErrSecret)
	does(t, a, "embargo n1 oli bob", "number m bob same n1")
	isText(t, "bob asks", a.Answer("ask bob m"), "6 1")
	does(t, a, "embargo n1 oli tom") // what bob has defined is bob's, and is recomputed
	fails(t, a, "number m2 bob same n1", api.ErrSecret)
	does(t, a, "data d1 tom 10")
	isText(t, "bob asks", a.Answer("ask bob m"), "20 2")
	isText(t, "bob asks", a.Answer("ask bob n1"), "error 103")
	isText(t, "ann asks", a.Answer("ask ann m"), "error 103")
	does(t, a, "release n1 oli", "number m2 bob same n1")
}

func TestSecretsOfNetworks(t *testing.T) {
	r := seeded()
	told, untold := 0, 0
	for range 30 {
		a := network(t, r)
		for _, n := range a.Numbers() {
			for _, hand := range []string{"tom", "lea", "ann", "bob", "oli", "nobody"} {
				value, version, e := a.Ask(hand, n.Name)
				if n.State == archive.Released || n.By == hand || n.State == archive.Embargoed && slices.Contains(n.Readers, hand) {
					isTrue(t, hand+" is told", e == api.OK && value == n.Value && version == n.Version)
					told++
				} else {
					isTrue(t, hand+" is not told", e == api.ErrSecret && value == "" && version == 0)
					untold++
				}
			}
		}
	}
	isTrue(t, "both were seen", told > 100 && untold > 100)
}

// A result is new memory.
func TestResultsAreNew(t *testing.T) {
	a := made(t, "embargo n1 oli tom lea")
	want := all(a)
	a.Hands()[0] = archive.Hand{}
	a.Sources()[0] = archive.Source{}
	a.Chains()[0] = archive.Chain{}
	numbers := a.Numbers()
	numbers[0].Inputs[0], numbers[0].Readers[0] = "x", "x"
	numbers[0] = archive.Number{}
	for _, l := range [][]string{right[[]string](t, "Rests")(a.Rests("d1")), right[[]string](t, "Trace")(a.Trace("n1"))} {
		l[0] = "x"
	}
	isTrue(t, "the archive stays", want.isSame(all(a)))
	isText(t, "Rests", a.Answer("rests d1"), "n1")
	isText(t, "Trace", a.Answer("trace n1"), "d1@1 c1@1 scale@1")
	does(t, a, "data d1 tom 8", "embargo n1 oli ann", "hand eve lab")
	isTrue(t, "results stay", want.numbers[0].Value == "6" && want.sources[0].Value == "3" && len(want.hands) == 4)
	isList(t, "readers stay", want.numbers[0].Readers, []string{"tom", "lea"})
}

func TestNil(t *testing.T) {
	var a *archive.Archive
	isCode(t, "Do", a.Do("hand tom tower"), api.ErrArg)
	isCode(t, "Do", a.Do(strings.Repeat("a", 501)), api.ErrArg)
	isTrue(t, "the state", all(a).isSame(told{}))
	value, version, e := a.Ask("tom", "n1")
	isTrue(t, "Ask", value == "" && version == 0 && e == api.ErrNone)
	l, e := a.Rests("n1")
	isTrue(t, "Rests", len(l) == 0 && e == api.ErrNone)
	l, e = a.Trace("n1")
	isTrue(t, "Trace", len(l) == 0 && e == api.ErrNone)
	s, e := a.Papers("n1")
	isTrue(t, "Papers", s == "" && e == api.ErrNone)
	for _, line := range []string{"hand tom tower", "items", "ask tom n1", "rests n1", "trace n1", "", strings.Repeat("a", 501)} {
		isText(t, "Answer "+line, a.Answer(line), "error 1")
	}
	for _, script := range []string{"", "items\n", strings.Repeat("a", 65537)} {
		s, at, e := a.Run(script)
		isTrue(t, "Run", s == "" && at == 0 && e == api.ErrArg)
	}
	isTrue(t, "Same", archive.Same(a, nil) && !archive.Same(a, archive.New()) && !archive.Same(archive.New(), nil))
}

func TestEmpty(t *testing.T) {
	a := archive.New()
	isTrue(t, "the state", all(a).isSame(told{}))
	isText(t, "items", a.Answer("items"), "")
	isTrue(t, "Same", archive.Same(a, archive.New()) && archive.Same(a, a))
}
