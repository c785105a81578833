package archive_test

import (
	"strings"
	"testing"

	"fluxmast/api"
	"fluxmast/archive"
)

// P10.7: papers.

func TestPapers(t *testing.T) {
	a := made(t, "cal c1 lea 5/2", "embargo n1 oli tom", "release n1 oli")
	s := right[string](t, "Papers")(a.Papers("n1"))
	above := "number n1 2 15/2\nrests d1@1 c1@2 scale@1\n5 data d1 tom 3\n6 cal c1 lea 2\n7 chain scale ann $1 $2 *\n8 number n1 ann scale d1 c1\n9 cal c1 lea 5/2\n10 embargo n1 oli tom\n11 release n1 oli\n"
	isText(t, "Papers", s, above+"digest "+slowDigest(archive.Seal(2, above))+"\n")
	p := right[archive.Paper](t, "CheckPapers")(archive.CheckPapers(s))
	isTrue(t, "what they say", p.Name == "n1" && p.Version == 2 && p.Value == "15/2")
	isList(t, "Rests", p.Rests, []string{"d1@1", "c1@2", "scale@1"})
	isList(t, "Lines", p.Lines, strings.Split(above, "\n")[2:9])
}

// What is not below a number is not in its papers: other items, numbers above it, and hands that are called like an item.
func TestPapersOfOne(t *testing.T) {
	a := made(t, "hand d1 tower", "hand n1 lab", "data d2 d1 7", "chain neg ann $1 neg", "number n2 ann neg n1", "number n3 ann neg d2", "embargo n1 oli d1", "data d2 tom 8", "release n2 oli", "release n3 oli", "data d1 d1 9")
	s := right[string](t, "Papers")(a.Papers("n2"))
	above := "number n2 2 -18\nrests d1@2 c1@1 scale@1 neg@1 n1@2\n5 data d1 tom 3\n6 cal c1 lea 2\n7 chain scale ann $1 $2 *\n8 number n1 ann scale d1 c1\n12 chain neg ann $1 neg\n13 number n2 ann neg n1\n15 embargo n1 oli d1\n17 release n2 oli\n19 data d1 d1 9\n"
	isText(t, "Papers", s, above+"digest "+slowDigest(archive.Seal(2, above))+"\n")
	for _, c := range []struct {
		name string
		want api.Errno
	}{{"none", api.ErrNone}, {"", api.ErrNone}, {"d1", api.ErrNone}, {"scale", api.ErrNone}, {"tom", api.ErrNone}, {"n1", api.ErrState}, {"n2", api.OK}, {"n3", api.OK}} {
		s, e := a.Papers(c.name)
		isCode(t, "Papers "+c.name, e, c.want)
		isTrue(t, "no papers with an error", (s == "") == (e != api.OK))
	}
	_, e := made(t).Papers("n1")
	isCode(t, "Papers of a number that is kept", e, api.ErrState)
}

// Papers of networks say what the archive has, and define the same numbers.
func TestPapersDefine(t *testing.T) {
	r := seeded()
	seen := 0
	for range 40 {
		a := network(t, r)
		for _, n := range a.Numbers() {
			s, e := a.Papers(n.Name)
			isTrue(t, "papers of just what is released", (e == api.OK) == (n.State == archive.Released))
			if e != api.OK {
				continue
			}
			seen++
			p := right[archive.Paper](t, "CheckPapers")(archive.CheckPapers(s))
			isTrue(t, "what they say", p.Name == n.Name && p.Version == n.Version && p.Value == n.Value)
			isList(t, "Rests", p.Rests, right[[]string](t, "Trace")(a.Trace(n.Name)))
			b := archive.New()
			for line := range strings.Lines(a.Ledger()) {
				if l := words(line); l[2] == "hand" {
					does(t, b, strings.Join(l[2:5], " "))
				}
			}
			for _, line := range p.Lines {
				_, command, _ := strings.Cut(line, " ")
				does(t, b, command)
			}
			isTrue(t, "they define the same number", sameNumber(numberOf(b, n.Name), n))
		}
	}
	isTrue(t, "papers were seen", seen > 20)
}

func TestPapersSpoilt(t *testing.T) {
	a := made(t, "cal c1 lea 5/2", "release n1 oli")
	s := right[string](t, "Papers")(a.Papers("n1"))
	for at := range s {
		for x := range 256 {
			if byte(x) == s[at] {
				continue
			}
			p, e := archive.CheckPapers(spoilt(s, at, byte(x)))
			isTrue(t, "a byte is replaced", e == api.ErrForm || e == api.ErrSum)
			isTrue(t, "nothing with an error", p.Name == "" && p.Version == 0 && p.Value == "" && p.Rests == nil && p.Lines == nil)
		}
	}
	for cut := range len(s) {
		_, e := archive.CheckPapers(s[:cut])
		isCode(t, "papers that are cut", e, api.ErrForm)
	}
}

// signed is papers with these lines above the digest.
func signed(lines ...string) string {
	above := strings.Join(lines, "\n") + "\n"
	return above + "digest " + slowDigest(slowSeal(2, above)) + "\n"
}

func TestCheckPapers(t *testing.T) {
	longest := strings.Repeat("a", 24)
	line := strings.Repeat("x", 500)
	number, rests, entry := "number n1 2 15/2", "rests d1@1", "1 x"
	for _, lines := range [][]string{
		{number, rests, entry}, {"number " + longest + " 99999999 -" + digits(199), rests, entry}, {"number - 1 0", rests, entry},
		{number, "rests " + longest + "@99999999 a@1 a@1 -@10", entry}, {number, rests, "99999999 " + line}, {number, rests, "1 ~ !", "2 $ digest x", "10 x", "11 number n1 2 15/2"},
		{number, rests, "7 " + strings.Repeat("x ", 249) + "xx"},
	} {
		p := right[archive.Paper](t, lines[0])(archive.CheckPapers(signed(lines...)))
		isText(t, "Name and Value", p.Name+" "+p.Value, strings.Join([]string{words(lines[0])[1], words(lines[0])[3]}, " "))
		isList(t, "Rests", p.Rests, words(lines[1])[1:])
		isList(t, "Lines", p.Lines, lines[2:])
	}
	for _, lines := range [][]string{
		{number}, {number, rests}, {rests, number, entry}, {number, entry, rests}, {number, entry}, {rests, entry}, {number, rests, rests, entry}, {number, number, rests, entry}, {"", number, rests, entry}, {number, "", rests, entry}, {number, rests, "", entry}, {number, rests, entry, ""}, {number, rests, entry, "digest 0123456789abcdef"},
		{"Number n1 2 15/2", rests, entry}, {"number n1 2", rests, entry}, {"number n1 2 15/2 x", rests, entry}, {"number N1 2 15/2", rests, entry}, {"number  2 15/2", rests, entry}, {"number " + longest + "a 2 15/2", rests, entry}, {" number n1 2 15/2", rests, entry}, {"number n1 2 15/2 ", rests, entry}, {"number  n1 2 15/2", rests, entry}, {"numbers n1 2 15/2", rests, entry},
		{"number n1 0 15/2", rests, entry}, {"number n1 02 15/2", rests, entry}, {"number n1 +2 15/2", rests, entry}, {"number n1 -2 15/2", rests, entry}, {"number n1 123456789 15/2", rests, entry}, {"number n1 x 15/2", rests, entry}, {"number n1 1x 15/2", rests, entry}, {"number n1 2 30/4", rests, entry}, {"number n1 2 x", rests, entry}, {"number n1 2 " + digits(201), rests, entry},
		{number, "rests", entry}, {number, "rests ", entry}, {number, "rests d1@1 ", entry}, {number, "rests  d1@1", entry}, {number, "Rests d1@1", entry}, {number, "d1@1", entry}, {number, "rests d1", entry}, {number, "rests d1@", entry}, {number, "rests @1", entry}, {number, "rests D1@1", entry}, {number, "rests d1@0", entry}, {number, "rests d1@01", entry}, {number, "rests d1@123456789", entry}, {number, "rests d1@1@1", entry}, {number, "rests d1@1 d2", entry}, {number, "rests " + longest + "a@1", entry},
		{number, rests, "1"}, {number, rests, "1 "}, {number, rests, "x"}, {number, rests, " 1 x"}, {number, rests, "1  x"}, {number, rests, "1 x "}, {number, rests, "0 x"}, {number, rests, "01 x"}, {number, rests, "123456789 x"}, {number, rests, "x x"}, {number, rests, "1 x\x00"}, {number, rests, "1 x\x7f"}, {number, rests, "1 \xff"}, {number, rests, "1 x\r"}, {number, rests, "1 x" + line},
		{number, rests, "2 x", "1 x"}, {number, rests, "2 x", "2 x"}, {number, rests, "9 x", "10 x", "9 x"}, {number, rests, "10 x", "9 x"},
	} {
		_, e := archive.CheckPapers(signed(lines...))
		isCode(t, strings.Join(lines, "\n"), e, api.ErrForm)
	}
}

func TestCheckPapersDigest(t *testing.T) {
	above := "number n1 2 15/2\nrests d1@1\n1 x\n"
	digest := slowDigest(slowSeal(2, above))
	for _, c := range []struct {
		text string
		want api.Errno
	}{
		{above + "digest " + digest + "\n", api.OK},
		{above + "digest 0123456789abcdef\n", api.ErrSum}, {above + "digest " + slowDigest(slowSeal(0, above)) + "\n", api.ErrSum}, {above + "digest " + slowDigest(slowSeal(2, above+"digest ")) + "\n", api.ErrSum}, {above + "digest " + slowDigest(slowSeal(2, above[:len(above)-1])) + "\n", api.ErrSum},
		{above + "digest 0123456789abcdeF\n", api.ErrForm}, {above + "digest 0123456789abcdeg\n", api.ErrForm}, {above + "digest 0123456789abcde\n", api.ErrForm}, {above + "digest 0" + digest + "\n", api.ErrForm}, {above + "digest  " + digest + "\n", api.ErrForm}, {above + "digest " + digest + " \n", api.ErrForm}, {above + "Digest " + digest + "\n", api.ErrForm}, {above + digest + "\n", api.ErrForm}, {above + "digest\n", api.ErrForm}, {above + "digest \n", api.ErrForm},
		{above + "digest " + digest, api.ErrForm}, {above + "digest " + digest + "\n\n", api.ErrForm}, {above + "digest " + digest + "\nx", api.ErrForm}, {above + "digest " + digest + "\n ", api.ErrForm}, {above, api.ErrForm}, {"", api.ErrForm}, {"\n", api.ErrForm}, {"\n\n\n\n\n", api.ErrForm}, {"digest " + digest + "\n", api.ErrForm},
	} {
		_, e := archive.CheckPapers(c.text)
		isCode(t, c.text, e, c.want)
	}
}
