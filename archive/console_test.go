package archive_test

import (
	"strings"
	"testing"

	"fluxmast/api"
	"fluxmast/archive"
)

// P10.8: console.

func TestAnswer(t *testing.T) {
	a := made(t, "chain one ann 1", "number n2 ann one", "data d2 tom 7")
	for _, c := range []struct{ line, want string }{
		{"data d1 tom 4", "ok"}, {"data d1 ann 4", "error 101"}, {"data c1 tom 4", "error 8"}, {"data d1 tom 2/4", "error 2"}, {"number n9 ann none", "error 5"}, {"release n1 ann", "error 101"}, {strings.Repeat("a", 501), "error 4"}, {strings.Repeat("a", 500), "error 2"},
		{"items", "d1 c1 d2 scale one n1 n2"}, {"rests d1", "n1"}, {"rests n1", ""}, {"rests d2", ""}, {"trace n1", "d1@2 c1@1 scale@1"}, {"trace n2", "one@1"}, {"ask ann n1", "8 2"}, {"ask tom n1", "error 103"}, {"ask nobody n1", "error 103"},
		{"rests none", "error 5"}, {"rests tom", "error 5"}, {"trace none", "error 5"}, {"trace d1", "error 5"}, {"ask ann none", "error 5"}, {"ask tom d1", "error 5"},
		// neither commands nor questions
		{"", "error 2"}, {"# all", "error 2"}, {"items d1", "error 2"}, {"items ", "error 2"}, {" items", "error 2"}, {"Items", "error 2"}, {"rests", "error 2"}, {"rests ", "error 2"}, {"rests d1 d1", "error 2"}, {"rests D1", "error 2"}, {"rests  d1", "error 2"}, {"rests d1\n", "error 2"}, {"rests " + strings.Repeat("a", 25), "error 2"},
		{"trace", "error 2"}, {"trace n1 n1", "error 2"}, {"trace N1", "error 2"}, {"ask", "error 2"}, {"ask n1", "error 2"}, {"ask ann n1 n1", "error 2"}, {"ask Ann n1", "error 2"}, {"ask ann N1", "error 2"}, {"papers n1", "error 2"}, {"rests " + strings.Repeat("a", 495), "error 4"}, {"ask ann " + strings.Repeat("n1 ", 300), "error 4"},
	} {
		before := a.Ledger()
		isText(t, c.line, a.Answer(c.line), c.want)
		isTrue(t, c.line+": just what is done is in the ledger", (before == a.Ledger()) == (c.want != "ok"))
	}
}

func TestRun(t *testing.T) {
	for _, c := range []struct {
		script, want string
		at           int
		e            api.Errno
	}{
		{"", "", 0, api.OK}, {"\n", "", 0, api.OK}, {"\n\n\n", "", 0, api.OK}, {"#", "", 0, api.OK}, {"# x", "", 0, api.OK}, {"#" + strings.Repeat("x", 1000) + "\n", "", 0, api.OK},
		{"items", "d1 c1 scale n1\n", 0, api.OK}, {"items\n", "d1 c1 scale n1\n", 0, api.OK}, {"rests n1\nrests n1\n", "\n\n", 0, api.OK},
		{"data d1 tom 4\nask ann n1\n", "ok\n8 2\n", 0, api.OK}, {"# x\n\ndata d1 tom 4\n\n#\nask ann n1", "ok\n8 2\n", 0, api.OK},
		{"ask tom n1", "error 103\n", 1, api.ErrSecret}, {"\n#\nask tom n1\nitems\n", "error 103\n", 3, api.ErrSecret}, {"items\ndata d1 ann 4\nitems\n", "d1 c1 scale n1\nerror 101\n", 2, api.ErrHand},
		{" # x", "error 2\n", 1, api.ErrForm}, {" ", "error 2\n", 1, api.ErrForm}, {"items\r\nitems", "error 2\n", 1, api.ErrForm}, {"items\n\n" + strings.Repeat("x", 501), "d1 c1 scale n1\nerror 4\n", 3, api.ErrSize}, {"trace n9", "error 5\n", 1, api.ErrNone},
		{strings.Repeat("x", 65537), "", 0, api.ErrSize}, {strings.Repeat("\n", 65537), "", 0, api.ErrSize}, {strings.Repeat("\n", 65536), "", 0, api.OK}, {strings.Repeat("\n", 65535) + "x", "error 2\n", 65536, api.ErrForm}, {"items\n" + strings.Repeat("#", 65531), "", 0, api.ErrSize},
	} {
		a := made(t)
		s, at, e := a.Run(c.script)
		isText(t, "Run "+c.script, s, c.want)
		isInt(t, "Run "+c.script, at, c.at)
		isCode(t, "Run "+c.script, e, c.e)
	}
}

// An answer may look like an error.
func TestItemsCalledError(t *testing.T) {
	a := archive.New()
	s, at, e := a.Run("hand tom tower\ndata error tom 1\ndata 5 tom 2\nitems\ndata ok tom 3\n")
	isText(t, "Run", s, "ok\nok\nok\nerror 5\nok\n")
	isInt(t, "Run", at, 0)
	isCode(t, "Run", e, api.OK)
}

func TestRunIsItsLines(t *testing.T) {
	lines := append(first(), "items", "cal c1 lea 5/2", "ask ann n1", "trace n1", "rests c1", "embargo n1 oli tom", "ask tom n1", "release n1 oli")
	a, b := archive.New(), archive.New()
	s, at, e := a.Run(strings.Join(lines, "\n"))
	isTrue(t, "no error", at == 0 && e == api.OK)
	var want strings.Builder
	for _, line := range lines {
		want.WriteString(b.Answer(line) + "\n")
	}
	isText(t, "Run", s, want.String())
	isTrue(t, "the same state", archive.Same(a, b) && all(a).isSame(all(b)))
	c := made(t)
	_, at, e = c.Run("data d1 tom 4\nchain scale ann $1 0 / $2 +\ndata d1 tom 5\n")
	isInt(t, "the line with the error", at, 2)
	isCode(t, "its error", e, api.ErrZero)
	isTrue(t, "the lines ahead of it are done, and no others", all(c).isSame(all(made(t, "data d1 tom 4"))))
}
