package archive_test

import (
	"strconv"
	"strings"
	"testing"

	"fluxmast/api"
	"fluxmast/archive"
)

// P10.6: ledgers.

func TestLedger(t *testing.T) {
	a := made(t)
	s := a.Ledger()
	isText(t, "Ledger", s, history(first()).ledger())
	isTrue(t, "its lines", strings.HasPrefix(s, "1 14 hand tom tower ") && strings.Contains(s, "\n8 25 number n1 ann scale d1 c1 ") && strings.Count(s, "\n") == 8)
	digest := archive.Seal(0, "1 14 hand tom tower")
	isTrue(t, "the first digest", strings.HasPrefix(s, "1 14 hand tom tower "+slowDigest(digest)+"\n2 12 hand lea lab "+slowDigest(archive.Seal(digest, "2 12 hand lea lab"))+"\n"))
	for _, line := range []string{"hand tom tower", "data d1 ann 1", "x", "items", "ask ann n1", "# all", ""} {
		a.Do(line)
		a.Answer(line)
	}
	a.Run("items\n# all\nask ann n1\nask tom n1\n")
	isText(t, "no errors and no questions", a.Ledger(), s)
	isText(t, "Answer", a.Answer("data d1 tom 1"), "ok")
	a.Run("data d1 tom 2\nitems\ncal c1 lea 1\ncal c1 tom 1")
	isText(t, "commands of the console", a.Ledger(), history(append(first(), "data d1 tom 1", "data d1 tom 2", "cal c1 lea 1")).ledger())
}

func TestDigestsHaveAllDigits(t *testing.T) {
	a := archive.New()
	does(t, a, "hand tom tower")
	short := 0
	for i := range 2000 {
		does(t, a, "data d tom "+strconv.Itoa(i))
	}
	for line := range strings.Lines(a.Ledger()) {
		l := words(strings.TrimSuffix(line, "\n"))
		isInt(t, "digits", len(l[len(l)-1]), 16)
		if l[len(l)-1][0] == '0' {
			short++
		}
	}
	isTrue(t, "digests with zeros in front were seen", short > 50)
	b, n := archive.Resume(a.Ledger())
	isTrue(t, "Resume", n == len(a.Ledger()) && archive.Same(a, b))
}

func TestResume(t *testing.T) {
	r := seeded()
	for range 10 {
		a := network(t, r)
		s := a.Ledger()
		b, n := archive.Resume(s)
		isInt(t, "bytes", n, len(s))
		isTrue(t, "the same state", archive.Same(a, b) && all(a).isSame(all(b)))
		for _, x := range a.Numbers() {
			papers, e := a.Papers(x.Name)
			papers2, e2 := b.Papers(x.Name)
			isTrue(t, "the same papers", papers == papers2 && e == e2)
		}
		for _, line := range []string{"data d1 tom 4", "hand lou lab", "data d1 lou 4", "items", "trace n1"} {
			isText(t, "it goes on as the first one", a.Answer(line), b.Answer(line))
		}
		isTrue(t, "the same state", archive.Same(a, b) && all(a).isSame(all(b)))
	}
}

func TestResumeCut(t *testing.T) {
	lines := append(first(), "data d1 tom 4", "embargo n1 oli tom", "release n1 oli")
	s := history(lines).ledger()
	for cut := range len(s) + 1 {
		b, n := archive.Resume(s[:cut])
		whole := strings.Count(s[:cut], "\n")
		isInt(t, "bytes up to the last whole line", n, strings.LastIndex(s[:cut], "\n")+1)
		a := archive.New()
		does(t, a, lines[:whole]...)
		isTrue(t, "the state behind the last whole line", archive.Same(a, b) && all(a).isSame(all(b)))
	}
}

func TestResumeSpoilt(t *testing.T) {
	s := made(t, "data d1 tom 4").Ledger()
	for at := range s {
		for _, x := range []byte{0, '\n', ' ', '0', '1', 'a', 'f', s[at] ^ 1, s[at] ^ 32, s[at] + 1} {
			if x == s[at] {
				continue
			}
			b, n := archive.Resume(spoilt(s, at, x))
			line := strings.Count(s[:at], "\n")
			isInt(t, "it reads no further than the line of the byte", n, strings.LastIndex(s[:at], "\n")+1)
			isText(t, "and has the lines ahead of it", b.Ledger(), history(append(first(), "data d1 tom 4")[:line]).ledger())
		}
	}
}

// sealed is a ledger of lines that are handed in up to their digests.
func sealed(lines ...string) string {
	s, digest := "", uint64(0)
	for _, line := range lines {
		digest = slowSeal(digest, line)
		s += line + " " + slowDigest(digest) + "\n"
	}
	return s
}

func TestResumeOfWrongLines(t *testing.T) {
	good := sealed("1 14 hand tom tower", "2 12 data d tom 1")
	_, n := archive.Resume(good)
	isInt(t, "a ledger", n, len(good))
	for _, lines := range [][]string{
		{"1 14 hand tom tower", "1 12 data d tom 1"}, {"1 14 hand tom tower", "3 12 data d tom 1"}, {"1 14 hand tom tower", "02 12 data d tom 1"}, {"1 14 hand tom tower", "+2 12 data d tom 1"}, {"1 14 hand tom tower", " 12 data d tom 1"}, {"1 14 hand tom tower", "x 12 data d tom 1"},
		{"1 14 hand tom tower", "2 11 data d tom 1"}, {"1 14 hand tom tower", "2 13 data d tom 1"}, {"1 14 hand tom tower", "2 012 data d tom 1"}, {"1 14 hand tom tower", "2 data d tom 1"}, {"1 14 hand tom tower", "2 12 data d tom"}, {"1 14 hand tom tower", "2 12  data d tom 1"},
		{"1 14 hand tom tower", "2 14 hand tom tower"}, {"1 14 hand tom tower", "2 12 data d lea 1"}, {"1 14 hand tom tower", "2 5 items"}, {"1 14 hand tom tower", "2 0 "}, {"1 14 hand tom tower", "2 5 # all"}, {"1 14 hand tom tower", ""}, {"1 14 hand tom tower", "2"}, {"1 14 hand tom tower", "2 12"},
	} {
		lines = append(lines, "3 15 hand lea lab")
		b, n := archive.Resume(sealed(lines...))
		isInt(t, "bytes read of "+lines[1], n, len(sealed(lines[0])))
		isText(t, "ledger", b.Ledger(), sealed(lines[0]))
	}
	first, second, _ := strings.Cut(good, "\n")
	for _, s := range []string{
		"", "\n", "x", "\n" + good, " " + good, "0 14 hand tom tower\n", strings.ToUpper(first) + "\n", first + " \n" + second, strings.Replace(first, "tower ", "tower  ", 1) + "\n", first + "\r\n", first, first[:len(first)-16] + "\n", first[:len(first)-17] + "\n", first + "0\n",
		"1 14 hand tom tower " + slowDigest(slowSeal(2, "1 14 hand tom tower")) + "\n", "1 14 hand tom tower " + slowDigest(slowSeal(0, "1 14 hand tom tower ")) + "\n",
		second, sealed("2 12 data d tom 1"),
	} {
		b, n := archive.Resume(s)
		isInt(t, "bytes read of "+s, n, 0)
		isTrue(t, "an empty archive", archive.Same(b, archive.New()))
	}
	b, n := archive.Resume(good + "3 ")
	isInt(t, "with a part of a line behind", n, len(good))
	isTrue(t, "it can go on", b.Do("data d tom 2") == api.OK && strings.HasPrefix(b.Ledger(), good+"3 12 data d tom 2 "))
}

func TestSame(t *testing.T) {
	a, b := made(t), made(t)
	isTrue(t, "the same commands", archive.Same(a, b) && archive.Same(b, a))
	does(t, a, "data d1 tom 4")
	isTrue(t, "other commands", !archive.Same(a, b) && !archive.Same(b, a))
	does(t, b, "data d1 tom 4")
	isTrue(t, "the same commands again", archive.Same(a, b))
	b.Do("data d1 tom 2/4")
	isTrue(t, "with errors", archive.Same(a, b))
	does(t, a, "data d1 tom 5", "cal c1 lea 9")
	does(t, b, "cal c1 lea 9", "data d1 tom 5")
	isTrue(t, "the same state, but other ledgers", !archive.Same(a, b))
}
