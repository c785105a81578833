package archive_test

import (
	"math/big"
	"math/rand"
	"slices"
	"strings"
	"testing"

	"fluxmast/api"
	"fluxmast/archive"
	"fluxmast/num"
)

// P10.1 and P10.2: chains.

func TestCheck(t *testing.T) {
	ones := func(n int) string { return strings.TrimSuffix(strings.Repeat("1 ", n), " ") }
	pluses := func(n int) string { return strings.Repeat(" +", n) }
	for _, c := range []struct {
		text   string
		inputs int
		e      api.Errno
	}{
		{"$1 $2 * 1/2 +", 2, api.OK},
		{"0", 0, api.OK}, {"-1", 0, api.OK}, {"-1/2", 0, api.OK}, {"$1", 1, api.OK}, {"$8", 8, api.OK}, {"$8 $3 -", 8, api.OK}, {"$3 $8 -", 8, api.OK},
		{"1 2 +", 0, api.OK}, {"1 2 -", 0, api.OK}, {"1 2 *", 0, api.OK}, {"1 2 /", 0, api.OK}, {"1 0 /", 0, api.OK}, {"1 2 min", 0, api.OK}, {"1 2 max", 0, api.OK},
		{"1 neg", 0, api.OK}, {"1 abs", 0, api.OK}, {"1 dup +", 0, api.OK}, {"1 2 swap -", 0, api.OK},
		// no lines
		{"", 0, api.ErrForm}, {" ", 0, api.ErrForm}, {" 1", 0, api.ErrForm}, {"1 ", 0, api.ErrForm}, {"1  neg", 0, api.ErrForm}, {"1\tneg", 0, api.ErrForm}, {"1\n", 0, api.ErrForm}, {"1\x00", 0, api.ErrForm},
		// no words of a chain
		{"$", 0, api.ErrForm}, {"$0", 0, api.ErrForm}, {"$9", 0, api.ErrForm}, {"$01", 0, api.ErrForm}, {"$10", 0, api.ErrForm}, {"$:", 0, api.ErrForm}, {"1 NEG", 0, api.ErrForm}, {"1 drop", 0, api.ErrForm}, {"1 2 ^", 0, api.ErrForm}, {"x", 0, api.ErrForm},
		{"2/4", 0, api.ErrForm}, {"3/1", 0, api.ErrForm}, {"-0", 0, api.ErrForm}, {"+1", 0, api.ErrForm}, {"1/-2", 0, api.ErrForm}, {"01", 0, api.ErrForm}, {"1.5", 0, api.ErrForm}, {"1/0", 0, api.ErrForm},
		// numbers that are not there, or too many
		{"+", 0, api.ErrForm}, {"1 +", 0, api.ErrForm}, {"1 -", 0, api.ErrForm}, {"1 *", 0, api.ErrForm}, {"1 /", 0, api.ErrForm}, {"1 min", 0, api.ErrForm}, {"1 max", 0, api.ErrForm}, {"1 swap", 0, api.ErrForm},
		{"neg", 0, api.ErrForm}, {"abs", 0, api.ErrForm}, {"dup", 0, api.ErrForm}, {"swap", 0, api.ErrForm}, {"dup 1 +", 0, api.ErrForm}, {"1 + 2", 0, api.ErrForm}, {"1 2", 0, api.ErrForm}, {"1 dup", 0, api.ErrForm},
		// limits
		{ones(8) + pluses(7), 0, api.OK}, {ones(9) + pluses(8), 0, api.ErrForm}, {ones(8) + " dup" + pluses(8), 0, api.ErrForm}, {ones(8) + " swap" + pluses(7), 0, api.OK}, {ones(7) + " dup" + pluses(7), 0, api.OK},
		{"1" + strings.Repeat(" neg", 31), 0, api.OK}, {"1" + strings.Repeat(" neg", 32), 0, api.ErrForm},
		{digits(200), 0, api.OK}, {digits(201), 0, api.ErrForm}, {"-" + digits(199), 0, api.OK}, {"-" + digits(200), 0, api.ErrForm}, {"1/" + digits(198), 0, api.OK}, {"1/" + digits(199), 0, api.ErrForm},
		{digits(200) + " " + digits(197) + " +", 0, api.OK}, {digits(200) + " " + digits(198) + " +", 0, api.ErrSize}, {strings.Repeat(" ", 400), 0, api.ErrForm}, {strings.Repeat(" ", 401), 0, api.ErrSize},
	} {
		n, e := archive.Check(c.text)
		isInt(t, "Check "+c.text, n, c.inputs)
		isCode(t, "Check "+c.text, e, c.e)
	}
	for x := range 256 {
		text := "1" + string([]byte{byte(x)})
		_, e := archive.Check(text)
		_, want := slowCheck(text)
		isCode(t, "Check "+text, e, want)
	}
}

func TestEvaluate(t *testing.T) {
	for _, c := range []struct{ text, inputs, want string }{
		{"$1 $2 * 1/2 +", "3 4", "25/2"}, {"1", "", "1"}, {"$2", "3 4", "4"},
		{"$1 $2 +", "3 4", "7"}, {"$1 $2 -", "3 4", "-1"}, {"$1 $2 *", "3 4", "12"}, {"$1 $2 /", "3 4", "3/4"}, {"0 $1 /", "-2", "0"},
		{"$1 $2 min", "3 4", "3"}, {"$1 $2 max", "3 4", "4"}, {"$2 $1 min", "3 4", "3"}, {"$2 $1 max", "3 4", "4"}, {"$1 $2 min", "-1/2 -1/3", "-1/2"}, {"$1 dup max", "5", "5"},
		{"$1 neg", "3", "-3"}, {"$1 neg", "0", "0"}, {"$1 abs", "-3", "3"}, {"$1 abs", "3", "3"}, {"$1 dup *", "3", "9"},
		{"$1 $2 swap -", "3 4", "1"}, {"$1 $2 $3 swap - -", "1 2 4", "-1"}, {"1 $1 $2 - *", "3 4", "-1"}, {"$1 $1 $2 dup swap - + +", "3 4", "6"},
		{digits(200), "", digits(200)}, {"$1", digits(200), digits(200)}, {"$1 neg", digits(199), "-" + digits(199)},
		{"1 2 3 4 5 6 7 8 + + + + + + +", "", "36"}, {"$8 $7 - $6 - $5 - $4 - $3 - $2 - $1 -", "1 2 3 4 5 6 7 8", "-20"},
	} {
		x, e := archive.Evaluate(c.text, fracs(c.inputs))
		isCode(t, "Evaluate "+c.text, e, api.OK)
		isText(t, "Evaluate "+c.text, x.Text(), c.want)
	}
}

func TestEvaluateErrors(t *testing.T) {
	long, longest := digits(201), digits(200)
	for _, c := range []struct {
		text, inputs string
		want         api.Errno
	}{
		{"1 +", "", api.ErrForm}, {digits(401), "", api.ErrSize}, {"", "1", api.ErrForm},
		{"$1", "", api.ErrSize}, {"$1", "1 2", api.ErrSize}, {"1", "1", api.ErrSize}, {"$8", "1", api.ErrSize}, {"$9", "1 2 3", api.ErrForm},
		{"$1 0 /", "1", api.ErrZero}, {"0 dup /", "", api.ErrZero}, {"1 $1 $1 - /", "5", api.ErrZero}, {"$1 0 /", "", api.ErrSize},
		{"$1", long, api.ErrFull}, {"$1 0 *", long, api.ErrFull}, {"$1", "1/" + digits(199), api.ErrFull}, {"$1 neg", longest, api.ErrFull}, {"$1 dup +", strings.Repeat("9", 200), api.ErrFull}, {"$1 dup * 0 *", digits(101), api.ErrFull}, {"1 $1 /", longest, api.ErrFull},
		// word by word
		{"1 0 / $1 +", long, api.ErrZero}, {"$1 1 0 / +", long, api.ErrFull}, {"1 $1 0 / +", long, api.ErrFull}, {"$1 neg 0 /", longest, api.ErrFull},
		// an input that is not pushed is not looked at
		{"$2", long + " 5", api.OK}, {"$1", "5", api.OK},
	} {
		x, e := archive.Evaluate(c.text, fracs(c.inputs))
		isCode(t, "Evaluate "+c.text, e, c.want)
		isTrue(t, "the number is 0 with an error", e == api.OK || x.Zero())
	}
	inputs := fracs("3 4 9 9")
	right[num.Frac](t, "Evaluate")(archive.Evaluate("$1 $2 - dup swap neg +", inputs[:2]))
	isTrue(t, "inputs, and what is behind them, stay", slices.EqualFunc(inputs, fracs("3 4 9 9"), num.Frac.Same))
}

// randomWord is a word of a chain, most often one that fits the depth of the stack.
func randomWord(r *rand.Rand) string {
	switch r.Intn(8) {
	case 0:
		return pick(r, "0", "0", "1", "-1/2", "3/7", digits(50), "1/"+digits(40), digits(180))
	case 1:
		return pick(r, "$1", "$2", "$3", "$8")
	case 2:
		return pick(r, "neg", "abs", "dup", "swap")
	case 3:
		return pick(r, "neg", "swap", "$9", "2/4", "x", "", "-0")
	case 4:
		return pick(r, "dup", "1", "2")
	}
	return pick(r, "+", "-", "*", "/", "min", "max")
}

// randomChain is a text that is most often a chain's, with so many inputs at most.
func randomChain(r *rand.Rand, inputs int) string {
	var l []string
	depth := 0
	for len(l) == 0 || r.Intn(8) > 0 || depth > 1 {
		word := randomWord(r)
		if len(l) > 20 || depth > 4 {
			word = pick(r, "+", "-", "*", "/", "max")
		}
		if depth < 7 && r.Intn(5) == 0 && inputs > 0 {
			word = "$" + string(rune('1'+r.Intn(inputs)))
		}
		_, isValue := slowValue(word)
		isInput := len(word) == 2 && word[0] == '$' && int(word[1]-'0') <= inputs
		switch {
		case takes[word] > 0 && depth >= takes[word] && depth-takes[word]+leaves[word] <= 8:
			depth += leaves[word] - takes[word]
		case (isValue || isInput) && depth < 8:
			depth++
		default:
			if r.Intn(400) > 0 {
				continue
			}
		}
		l = append(l, word)
	}
	return strings.Join(l, " ")
}

func TestChainsAsModel(t *testing.T) {
	r := seeded()
	seen := map[api.Errno]int{}
	for range 8000 {
		text := randomChain(r, r.Intn(9))
		n, e := archive.Check(text)
		want, wantE := slowCheck(text)
		isInt(t, "Check "+text, n, want)
		isCode(t, "Check "+text, e, wantE)
		inputs := fracs(strings.Repeat(pick(r, "3 ", "-1/2 ", "0 ", digits(100)+" "), n))
		for i := range inputs {
			inputs[i] = inputs[i].Add(num.Int(int64(r.Intn(3) - 1)))
		}
		var rats []*big.Rat
		for _, x := range inputs {
			rat, _ := slowValue(x.Text())
			rats = append(rats, rat)
		}
		x, e := archive.Evaluate(text, inputs)
		y, wantE := slowEvaluate(text, rats)
		isCode(t, "Evaluate "+text, e, wantE)
		if seen[e]++; e == api.OK {
			isText(t, "Evaluate "+text, x.Text(), y.RatString())
		}
		if _, e2 := archive.Check(text); e2 == api.OK { // P10.2
			isTrue(t, "a chain that was checked is evaluated, divides by 0, or has a number that is too long", e == api.OK || e == api.ErrZero || e == api.ErrFull)
		}
	}
	for _, e := range []api.Errno{api.OK, api.ErrForm, api.ErrZero, api.ErrFull} {
		isTrue(t, "each result was seen: "+e.Error(), seen[e] > 100)
	}
}

func TestChainsOneByOne(t *testing.T) {
	r := seeded()
	seen := 0
	for range 5000 {
		text, other := randomChain(r, 2), randomChain(r, 0)
		inputs := fracs("3 -5/7")
		n, e := archive.Check(text)
		if m, e2 := archive.Check(other); e != api.OK || e2 != api.OK || m != 0 {
			continue
		}
		both := text + " " + other + " +"
		if _, e := archive.Check(both); e != api.OK {
			isTrue(t, "both have too many words, or too deep a stack", len(words(both)) > 32 || len(both) > 400 || strings.Count(other, " ") > 7)
			continue
		}
		x, e := archive.Evaluate(text, inputs[:n])
		y, e2 := archive.Evaluate(other, nil)
		z, e3 := archive.Evaluate(both, inputs[:n])
		if e != api.OK || e2 != api.OK || len(x.Add(y).Text()) > 200 {
			isTrue(t, "what fails fails in both", e3 != api.OK)
			continue
		}
		seen++
		isText(t, both, z.Text(), x.Add(y).Text())
	}
	isTrue(t, "sums were seen", seen > 500)
}

func TestSeal(t *testing.T) {
	const factor = 6364136223846793005
	isTrue(t, "of nothing", archive.Seal(2, "") == 2 && archive.Seal(0, "") == 0)
	isTrue(t, "of a byte 0", archive.Seal(0, "\x00") == factor^factor>>29)
	isTrue(t, "around 2^64", archive.Seal(1<<64-1, "\x00") == 0 && archive.Seal(1<<64-256, "\xff") == 0)
	r := seeded()
	for range 1000 {
		start := r.Uint64()
		s := make([]byte, r.Intn(40))
		r.Read(s)
		cut := r.Intn(len(s) + 1)
		h := archive.Seal(start, string(s))
		isTrue(t, "as the model", h == slowSeal(start, string(s)))
		isTrue(t, "byte by byte", h == archive.Seal(archive.Seal(start, string(s[:cut])), string(s[cut:])))
	}
}
