package archive_test

import (
	"math/rand"
	"slices"
	"strings"
	"testing"

	"fluxmast/api"
	"fluxmast/archive"
	"fluxmast/num"
)

// The numbers of the tests come from a fixed seed.

func seeded() *rand.Rand {
	return rand.New(rand.NewSource(1))
}

func pick[T any](r *rand.Rand, l ...T) T {
	return l[r.Intn(len(l))]
}

func isCode(t testing.TB, what string, got, want api.Errno) {
	t.Helper()
	if got != want {
		t.Errorf("%s: error %d, want %d", what, got, want)
	}
}

func isText(t testing.TB, what, got, want string) {
	t.Helper()
	if got != want {
		t.Errorf("%s: %q, want %q", what, got, want)
	}
}

func isInt(t testing.TB, what string, got, want int) {
	t.Helper()
	if got != want {
		t.Errorf("%s: %d, want %d", what, got, want)
	}
}

// isList tests that two lists have the same elements.
func isList[T comparable](t testing.TB, what string, got, want []T) {
	t.Helper()
	if !slices.Equal(got, want) {
		t.Errorf("%s: %v, want %v", what, got, want)
	}
}

func isTrue(t testing.TB, what string, holds bool) {
	t.Helper()
	if !holds {
		t.Error("it does not hold:", what)
	}
}

// right returns what is made of a result and its error: the result, after a test that there is no error.
func right[T any](t testing.TB, what string) func(x T, e api.Errno) T {
	return func(x T, e api.Errno) T {
		t.Helper()
		isCode(t, what, e, api.OK)
		return x
	}
}

// frac is the fraction with a text.
func frac(text string) num.Frac {
	x, e := num.Parse(text)
	if e != api.OK {
		panic("not a fraction: " + text)
	}
	return x
}

// fracs is the fractions of a text.
func fracs(text string) []num.Frac {
	var l []num.Frac
	for _, word := range strings.Fields(text) {
		l = append(l, frac(word))
	}
	return l
}

// digits is a whole number with so many digits.
func digits(n int) string {
	return strings.Repeat("7", n)
}

// The example: a hand of each role, two sources, a chain, and a number.
func first() []string {
	return []string{
		"hand tom tower", "hand lea lab", "hand ann analyst", "hand oli office",
		"data d1 tom 3", "cal c1 lea 2", "chain scale ann $1 $2 *", "number n1 ann scale d1 c1",
	}
}

// does tests that commands are performed.
func does(t testing.TB, a *archive.Archive, lines ...string) {
	t.Helper()
	for _, line := range lines {
		isCode(t, line, a.Do(line), api.OK)
	}
}

// made is an archive that has performed the lines of the example, and others.
func made(t testing.TB, lines ...string) *archive.Archive {
	t.Helper()
	a := archive.New()
	does(t, a, first()...)
	does(t, a, lines...)
	return a
}

// told is all that an archive tells of its state and its ledger.
type told struct {
	hands   []archive.Hand
	sources []archive.Source
	chains  []archive.Chain
	numbers []archive.Number
	ledger  string
}

func all(a *archive.Archive) told {
	return told{a.Hands(), a.Sources(), a.Chains(), a.Numbers(), a.Ledger()}
}

func sameNumber(x, y archive.Number) bool {
	same := x.Name == y.Name && x.Chain == y.Chain && x.Version == y.Version && x.Value == y.Value && x.State == y.State && x.By == y.By
	return same && slices.Equal(x.Inputs, y.Inputs) && slices.Equal(x.Readers, y.Readers)
}

func (x told) isSame(y told) bool {
	same := slices.Equal(x.hands, y.hands) && slices.Equal(x.sources, y.sources) && slices.Equal(x.chains, y.chains)
	return same && slices.EqualFunc(x.numbers, y.numbers, sameNumber) && x.ledger == y.ledger
}

// fails tests that a command has an error, and that nothing has changed.
func fails(t testing.TB, a *archive.Archive, line string, want api.Errno) {
	t.Helper()
	before := all(a)
	isCode(t, line, a.Do(line), want)
	isTrue(t, line+": nothing has changed", before.isSame(all(a)))
}

// numberOf is the number with a name, or no number.
func numberOf(a *archive.Archive, name string) archive.Number {
	for _, n := range a.Numbers() {
		if n.Name == name {
			return n
		}
	}
	return archive.Number{}
}

// spoilt is a text with another byte at an index.
func spoilt(s string, at int, x byte) string {
	return s[:at] + string([]byte{x}) + s[at+1:]
}
