package archive_test

import (
	"math/rand"
	"strings"
	"testing"

	"fluxmast/api"
	"fluxmast/archive"
)

// P10.1: archives that do the same as the model of them, whatever the commands.

var someHands = []string{"tom", "tim", "lea", "ann", "bob", "oli", "nobody", "d1"}
var someItems = []string{"d1", "d2", "c1", "c2", "sum", "part", "same", "none", "n1", "n2", "n3", "n4", "n5", "tom"}

func someChain(r *rand.Rand) string {
	return pick(r, "$1 $2 +", "$1 $2 *", "$2 $1 /", "$1", "1 $1 /", "$1 neg", "5", "1 3 /", "$1 dup *", "$1 $2 $3 + max", "$1 2 - $2 /", "+", "1 2", randomChain(r, 2))
}

// randomCommand is a line that is most often a command, for an archive with a few names.
func randomCommand(r *rand.Rand) string {
	hand, item := pick(r, someHands...), pick(r, someItems...)
	value := pick(r, "0", "1", "2", "-3", "5/2", "-1/7", digits(120), "2/4", "x")
	switch r.Intn(12) {
	case 0:
		return "hand " + hand + " " + pick(r, "tower", "lab", "analyst", "office", "pilot")
	case 1, 2:
		return "data " + pick(r, "d1", "d2", item) + " " + pick(r, "tom", "tim", hand) + " " + value
	case 3, 4:
		return "cal " + pick(r, "c1", "c2", item) + " " + pick(r, "lea", hand) + " " + value
	case 5:
		return "chain " + pick(r, "sum", "part", "same", item) + " " + pick(r, "ann", "bob", hand) + " " + someChain(r)
	case 6, 7, 8:
		line := "number " + pick(r, "n1", "n2", "n3", "n4", "n5", item) + " " + pick(r, "ann", "bob", hand) + " " + pick(r, "sum", "part", "same", item)
		for range r.Intn(4) {
			line += " " + pick(r, "d1", "c1", "n1", "n2", "n3", item)
		}
		return line
	case 9, 10:
		return "embargo " + pick(r, "n1", "n2", item) + " " + pick(r, "oli", hand) + " " + pick(r, someHands...) + " " + pick(r, someHands...)
	}
	return "release " + pick(r, "n1", "n2", item) + " " + pick(r, "oli", hand)
}

func randomQuestion(r *rand.Rand) string {
	hand, item := pick(r, someHands...), pick(r, someItems...)
	return pick(r, "items", "rests "+item, "trace "+item, "ask "+hand+" "+item, "ask "+hand+" n1", "trace n1", "rests d1", "items "+item, "rests", "ask "+item, "rests D1")
}

// randomLine is any line.
func randomLine(r *rand.Rand) string {
	line := randomCommand(r)
	switch r.Intn(40) {
	case 0:
		return randomQuestion(r)
	case 1:
		return spoilt(line, r.Intn(len(line)), byte(r.Intn(256)))
	case 2:
		return line + pick(r, " ", " x", "  n1", "\n", " "+strings.Repeat("a", 25), strings.Repeat(" 1", 250))
	}
	return line
}

// isAsModel tests that an archive tells what the model does.
func isAsModel(t testing.TB, a *archive.Archive, h history) {
	t.Helper()
	isTrue(t, "the state and the ledger are those of the model", all(a).isSame(h.tells()))
	for _, item := range someItems {
		for _, line := range []string{"rests " + item, "trace " + item, "ask tom " + item, "ask ann " + item, "ask nobody " + item} {
			want, _ := h.answer(line)
			isText(t, line, a.Answer(line), want)
		}
		s, e := a.Papers(item)
		state, _ := h.status(item)
		switch {
		case h.count(item, "number") == 0:
			isCode(t, "Papers", e, api.ErrNone)
		case state != archive.Released:
			isCode(t, "Papers", e, api.ErrState)
		default:
			isText(t, "Papers", s, h.papers(item))
			isCode(t, "Papers", e, api.OK)
		}
	}
}

func TestArchivesAsModel(t *testing.T) {
	r := seeded()
	seen := map[api.Errno]int{}
	for range 60 {
		a, h := archive.New(), history{}
		if r.Intn(4) > 0 {
			for _, line := range append(first(), "hand bob analyst", "chain same bob $1", "number n2 ann same n1") {
				does(t, a, line)
				h = append(h, line)
			}
		}
		for i := range 150 {
			line := randomLine(r)
			want := h.code(line)
			isCode(t, line, a.Do(line), want)
			if seen[want]++; want == api.OK {
				h = append(h, line)
			}
			if i%10 == 0 {
				isAsModel(t, a, h)
			}
		}
		isAsModel(t, a, h)
		b, n := archive.Resume(h.ledger())
		isInt(t, "Resume", n, len(h.ledger()))
		isTrue(t, "Resume has the same", archive.Same(a, b) && all(b).isSame(h.tells()))
		if t.Failed() {
			t.FailNow()
		}
	}
	for _, e := range []api.Errno{api.OK, api.ErrForm, api.ErrSize, api.ErrTwice, api.ErrNone, api.ErrHand, api.ErrSecret, api.ErrState, api.ErrZero, api.ErrFull} {
		isTrue(t, "each error was seen: "+e.Error(), seen[e] >= 5)
	}
}

func TestScriptsAsModel(t *testing.T) {
	r := seeded()
	clean := 0
	for range 400 {
		a, h := made(t), history(first())
		var script, want strings.Builder
		at, code := 0, api.OK
		for i := range 1 + r.Intn(12) {
			line := pick(r, randomLine(r), randomQuestion(r), "", "# "+randomLine(r), "#", "data d1 tom "+pick(r, "1", "2"))
			line = strings.ReplaceAll(line, "\n", "")
			script.WriteString(line + "\n")
			if code != api.OK || line == "" || line[0] == '#' {
				continue
			}
			answer, e := h.answer(line)
			want.WriteString(answer + "\n")
			if e != api.OK {
				at, code = i+1, e
			}
			if answer == "ok" {
				h = append(h, line)
			}
		}
		if code == api.OK {
			clean++
		}
		answers, n, e := a.Run(strings.TrimSuffix(script.String(), pick(r, "", "\n")))
		isText(t, "Run", answers, want.String())
		isInt(t, "Run", n, at)
		isCode(t, "Run", e, code)
		isTrue(t, "Run leaves what the model has", all(a).isSame(h.tells()))
	}
	isTrue(t, "scripts with and without errors were seen", clean > 50 && clean < 350)
}
