package archive_test

import (
	"slices"
	"strconv"
	"strings"
	"testing"

	"fluxmast/api"
	"fluxmast/archive"
)

// P10.1: commands.

func TestConstants(t *testing.T) {
	isList(t, "roles", []int{archive.Tower, archive.Lab, archive.Analyst, archive.Office}, []int{0, 1, 2, 3})
	isList(t, "kinds", []int{archive.Data, archive.Cal}, []int{0, 1})
	isList(t, "states", []int{archive.Kept, archive.Embargoed, archive.Released}, []int{0, 1, 2})
}

func TestExample(t *testing.T) {
	a := made(t)
	isTrue(t, "the state of the example", all(a).isSame(told{
		hands:   []archive.Hand{{Name: "tom"}, {Name: "lea", Role: 1}, {Name: "ann", Role: 2}, {Name: "oli", Role: 3}},
		sources: []archive.Source{{Name: "d1", Version: 1, Value: "3", By: "tom"}, {Name: "c1", Kind: 1, Version: 1, Value: "2", By: "lea"}},
		chains:  []archive.Chain{{Name: "scale", Version: 1, Text: "$1 $2 *", By: "ann"}},
		numbers: []archive.Number{{Name: "n1", Chain: "scale", Inputs: []string{"d1", "c1"}, Version: 1, Value: "6", By: "ann"}},
		ledger:  history(first()).ledger(),
	}))
	isText(t, "ask ann n1", a.Answer("ask ann n1"), "6 1")
	isText(t, "ask tom n1", a.Answer("ask tom n1"), "error 103")
	isText(t, "cal", a.Answer("cal c1 lea 5/2"), "ok")
	isText(t, "ask ann n1", a.Answer("ask ann n1"), "15/2 2")
	isText(t, "rests c1", a.Answer("rests c1"), "n1")
	isText(t, "trace n1", a.Answer("trace n1"), "d1@1 c1@2 scale@1")
	does(t, a, "embargo n1 oli tom")
	isText(t, "ask tom n1", a.Answer("ask tom n1"), "15/2 2")
	isText(t, "ask lea n1", a.Answer("ask lea n1"), "error 103")
	does(t, a, "release n1 oli")
	isText(t, "ask nobody n1", a.Answer("ask nobody n1"), "15/2 2")
}

func TestForms(t *testing.T) {
	a := made(t)
	long := strings.Repeat("a", 25)
	for _, line := range []string{
		"", " ", "x", "items", "rests d1", "trace n1", "ask ann n1", "# all", "HAND x tower", "Hand x tower",
		"hand", "hand x", "hand x tower tower", "hand X tower", "hand x_ tower", "hand x Tower", "hand x pilot", "hand x towe", "hand " + long + " tower", "hand x 0",
		" hand x tower", "hand x tower ", "hand  x tower", "hand x  tower", "hand\tx tower", "hand x tower\n", "hand x tower\r", "\nhand x tower", "hand \x00 tower", "hand \xff tower", "hand ä tower",
		"data", "data d1", "data d1 tom", "data d1 tom 3 4", "data D1 tom 3", "data d1 Tom 3", "data " + long + " tom 3", "data d1 " + long + " 3", "data d1 tom x", "data d1 tom -", "data d1 tom " + digits(201),
		"cal", "cal c1 lea", "cal c1 lea 3 4", "cal c.1 lea 3", "cal c1 l.ea 3", "cal c1 lea 2/4", "cal c1 lea -0", "cal c1 lea +1", "cal c1 lea 01", "cal c1 lea 3/1", "cal c1 lea 1/-2", "cal c1 lea 1/0",
		"chain", "chain scale", "chain scale ann", "chain Scale ann 1", "chain scale Ann 1", "chain scale ann ", "chain scale ann 1 ", "chain scale ann 1  neg", "chain " + long + " ann 1", "chain scale ann 1\x7f", "chain scale ann 1\x80",
		"number", "number n2", "number n2 ann", "number N2 ann scale", "number n2 Ann scale", "number n2 ann Scale", "number n2 ann scale D1", "number n2 ann scale d1 " + long, "number n2 ann scale d1 3/4",
		"embargo", "embargo n1", "embargo n1 oli", "embargo N1 oli tom", "embargo n1 Oli tom", "embargo n1 oli Tom", "embargo n1 oli tom " + long,
		"release", "release n1", "release N1 oli", "release n1 Oli", "release n1 oli tom",
	} {
		fails(t, a, line, api.ErrForm)
	}
	for x := range 256 {
		line := "hand a" + string([]byte{byte(x)}) + " lab"
		isName := 'a' <= x && x <= 'z' || '0' <= x && x <= '9' || x == '-'
		isTrue(t, line, (archive.New().Do(line) == api.OK) == isName)
		chain := "chain a ann 1" + string([]byte{byte(x)})
		if x <= ' ' || x > 126 {
			fails(t, a, chain, api.ErrForm)
		}
		fails(t, a, strings.Replace(chain, "ann", "tom", 1)+"1", map[bool]api.Errno{true: api.ErrHand, false: api.ErrForm}[x >= ' ' && x <= 126])
	}
}

func TestSizes(t *testing.T) {
	a := made(t)
	longest := strings.Repeat("z", 24)
	does(t, a, "hand "+longest+" tower", "data "+longest+" "+longest+" "+digits(200), "hand - lab", "hand 0-9 office", "data 007 tom -"+digits(199))
	fails(t, a, strings.Repeat("a", 500), api.ErrForm)
	fails(t, a, strings.Repeat("a", 501), api.ErrSize)
	readers := "embargo n1 oli tom" + strings.Repeat(" a", 240)
	isInt(t, "bytes", len(readers), 498)
	fails(t, a, readers, api.ErrHand)
	fails(t, a, readers+"aa", api.ErrHand)
	fails(t, a, readers+"aaa", api.ErrSize)
	fails(t, a, "chain x ann "+digits(200)+" "+digits(198)+" +", api.ErrSize)
	fails(t, a, "chain x tom "+digits(200)+" "+digits(198)+" +", api.ErrHand)
	does(t, a, "chain x ann "+digits(200)+" "+digits(197)+" +", "number y ann x")
}

func TestHands(t *testing.T) {
	a := archive.New()
	for i, role := range []string{"tower", "lab", "analyst", "office", "tower", "lab", "analyst"} {
		does(t, a, "hand h"+strconv.Itoa(i)+" "+role)
	}
	fails(t, a, "hand h0 tower", api.ErrTwice)
	fails(t, a, "hand h0 office", api.ErrTwice)
	does(t, a, "hand last office")
	fails(t, a, "hand h0 tower", api.ErrTwice)
	fails(t, a, "hand more tower", api.ErrFull)
	isInt(t, "hands", len(a.Hands()), 8)
	isTrue(t, "their roles", slices.EqualFunc(a.Hands(), []int{0, 1, 2, 3, 0, 1, 2, 3}, func(h archive.Hand, role int) bool { return h.Role == role }))
	does(t, a, "data h0 h0 1", "data last h4 1") // hands and items have names of their own
}

func TestRoles(t *testing.T) {
	for line, able := range map[string]string{
		"data new HAND 1": "tom", "cal new HAND 1": "lea", "chain new HAND 1": "ann", "number new HAND one": "ann", "embargo n1 HAND tom": "oli", "release n1 HAND": "oli",
	} {
		for _, hand := range []string{"tom", "lea", "ann", "oli", "nobody", "d1"} {
			a := made(t, "chain one ann 1")
			line := strings.Replace(line, "HAND", hand, 1)
			if hand == able {
				does(t, a, line)
			} else {
				fails(t, a, line, api.ErrHand)
			}
		}
	}
}

func TestSources(t *testing.T) {
	a := made(t, "hand tim tower", "hand lou lab")
	does(t, a, "data d1 tim 3", "data d1 tim -1/2", "cal c1 lou 9", "data d2 tom 0", "cal d0 lea 1")
	isList(t, "sources", a.Sources(), []archive.Source{
		{Name: "d1", Kind: 0, Version: 3, Value: "-1/2", By: "tim"}, {Name: "c1", Kind: 1, Version: 2, Value: "9", By: "lou"},
		{Name: "d2", Kind: 0, Version: 1, Value: "0", By: "tom"}, {Name: "d0", Kind: 1, Version: 1, Value: "1", By: "lea"},
	})
	isText(t, "its number has a new version each time", a.Answer("ask ann n1"), "-9/2 4")
	for _, name := range []string{"c1", "scale", "n1"} {
		fails(t, a, "data "+name+" tom 1", api.ErrTwice)
	}
	for _, name := range []string{"d1", "scale", "n1"} {
		fails(t, a, "cal "+name+" lea 1", api.ErrTwice)
	}
	for _, c := range []struct {
		line string
		want api.Errno
	}{
		{"data c1 ann 2/4", api.ErrForm}, {"data c1 ann 1", api.ErrHand}, {"data c1 nobody 1", api.ErrHand}, {"cal d1 tom 1", api.ErrHand}, {"cal n1 tom 1", api.ErrHand},
	} {
		fails(t, a, c.line, c.want)
	}
}

func TestChainCommands(t *testing.T) {
	a := made(t, "hand eve analyst", "chain inverse ann 1 $1 /", "number n2 ann inverse d1")
	does(t, a, "chain scale eve $2 $1 -")
	isList(t, "chains", a.Chains(), []archive.Chain{{Name: "scale", Version: 2, Text: "$2 $1 -", By: "eve"}, {Name: "inverse", Version: 1, Text: "1 $1 /", By: "ann"}})
	isText(t, "n1", a.Answer("ask ann n1"), "-1 2")
	isText(t, "n2", a.Answer("ask ann n2"), "1/3 1")
	does(t, a, "chain scale eve $2 $1 -", "chain none ann 7")
	isText(t, "the same text is a new version", a.Answer("trace n1"), "d1@1 c1@1 scale@3")
	for _, c := range []struct {
		line string
		want api.Errno
	}{
		{"chain scale tom +", api.ErrHand}, {"chain scale nobody +", api.ErrHand},
		{"chain d1 ann +", api.ErrForm}, {"chain d1 ann " + strings.Repeat("1", 401), api.ErrSize}, {"chain scale ann $1 $2", api.ErrForm}, {"chain new ann 2/4", api.ErrForm}, {"chain new ann A", api.ErrForm},
		{"chain d1 ann 1", api.ErrTwice}, {"chain c1 ann $1", api.ErrTwice}, {"chain n1 ann $1", api.ErrTwice},
		{"chain scale ann $1", api.ErrSize}, {"chain scale ann $3", api.ErrSize}, {"chain scale ann 1", api.ErrSize}, {"chain none ann $1", api.ErrSize},
		{"chain inverse ann $1 0 /", api.ErrZero}, {"chain inverse ann $1 dup * dup *" + strings.Repeat(" dup *", 12), api.ErrFull},
		{"chain inverse ann $1 0 / $2 +", api.ErrSize},
	} {
		fails(t, a, c.line, c.want)
	}
	does(t, a, "chain scale ann $2") // as many inputs
	isText(t, "n1", a.Answer("ask ann n1"), "2 4")
}

func TestNumberCommands(t *testing.T) {
	a := made(t, "hand eve analyst", "chain one ann 1", "chain inverse ann 1 $1 /", "data zero tom 0", "cal big lea "+digits(200), "number n2 ann inverse n1")
	does(t, a, "number n3 eve one", "number n4 ann scale n1 n1")
	n := numberOf(a, "n4")
	isTrue(t, "n4", sameNumber(n, archive.Number{Name: "n4", Chain: "scale", Inputs: []string{"n1", "n1"}, Version: 1, Value: "36", By: "ann"}))
	n = numberOf(a, "n3")
	isTrue(t, "n3", sameNumber(n, archive.Number{Name: "n3", Chain: "one", Version: 1, Value: "1", By: "eve"}))
	for _, c := range []struct {
		line string
		want api.Errno
	}{
		{"number n1 tom none", api.ErrHand}, {"number n9 oli one", api.ErrHand}, {"number n9 nobody one", api.ErrHand},
		{"number n1 ann none", api.ErrTwice}, {"number d1 ann one", api.ErrTwice}, {"number c1 ann one", api.ErrTwice}, {"number scale ann one", api.ErrTwice},
		{"number n9 ann none none", api.ErrNone}, {"number n9 ann d1", api.ErrNone}, {"number n9 ann n1", api.ErrNone},
		{"number n9 ann scale none", api.ErrNone}, {"number n9 ann scale one d1", api.ErrNone}, {"number n9 ann one n9", api.ErrNone}, {"number n9 ann scale d1 none", api.ErrNone},
		{"number n9 eve scale n1 none", api.ErrSecret}, {"number n9 eve scale none n1", api.ErrNone}, {"number n9 eve one n1", api.ErrSecret}, {"number n9 ann one n3", api.ErrSecret},
		{"number n9 ann one d1", api.ErrSize}, {"number n9 ann scale d1", api.ErrSize}, {"number n9 ann scale d1 c1 c1", api.ErrSize}, {"number n9 ann inverse zero zero", api.ErrSize}, {"number n9 ann inverse", api.ErrSize},
		{"number n9 ann inverse zero", api.ErrZero}, {"number n9 ann scale big big", api.ErrFull}, {"number n9 ann inverse big", api.ErrFull},
	} {
		fails(t, a, c.line, c.want)
	}
}

func TestEmbargoAndRelease(t *testing.T) {
	a := made(t, "hand n1 tower", "hand embargo tower")
	does(t, a, "embargo n1 oli tom ann")
	n := numberOf(a, "n1")
	isTrue(t, "embargoed", n.State == archive.Embargoed && n.Version == 1 && n.Value == "6")
	isList(t, "readers", n.Readers, []string{"tom", "ann"})
	does(t, a, "embargo n1 oli n1 oli embargo") // a reader may have the name of the number, or be the hand of the office
	isList(t, "readers", numberOf(a, "n1").Readers, []string{"n1", "oli", "embargo"})
	for _, c := range []struct {
		line string
		want api.Errno
	}{
		{"embargo none tom nobody", api.ErrHand}, {"embargo n1 nobody tom", api.ErrHand}, {"embargo none oli nobody", api.ErrNone}, {"embargo d1 oli tom", api.ErrNone}, {"embargo scale oli tom", api.ErrNone},
		{"embargo n1 oli nobody", api.ErrHand}, {"embargo n1 oli tom nobody tom", api.ErrHand}, {"embargo n1 oli tom tom nobody", api.ErrTwice}, {"embargo n1 oli tom lea tom", api.ErrTwice},
		{"release none tom", api.ErrHand}, {"release n1 ann", api.ErrHand}, {"release none oli", api.ErrNone}, {"release c1 oli", api.ErrNone}, {"release scale oli", api.ErrNone},
	} {
		fails(t, a, c.line, c.want)
	}
	does(t, a, "release n1 oli")
	n = numberOf(a, "n1")
	isTrue(t, "released", n.State == archive.Released && len(n.Readers) == 0)
	for _, c := range []struct {
		line string
		want api.Errno
	}{
		{"release n1 oli", api.ErrState}, {"release n1 tom", api.ErrHand}, {"embargo n1 oli tom", api.ErrState}, {"embargo n1 oli nobody", api.ErrState}, {"embargo n1 tom tom", api.ErrHand},
	} {
		fails(t, a, c.line, c.want)
	}
	b := made(t, "release n1 oli") // also a number that was kept
	isInt(t, "state", numberOf(b, "n1").State, archive.Released)
	does(t, b, "data d1 tom 5")
	isInt(t, "a correction keeps the state", numberOf(b, "n1").State, archive.Released)
}

func TestItemsFull(t *testing.T) {
	a := made(t, "chain one ann 1", "chain inverse ann 1 $1 /", "data zero tom 0")
	for i := len(words(a.Answer("items"))); i < 64; i++ {
		name := "x" + strconv.Itoa(i)
		does(t, a, []string{"data " + name + " tom 1", "cal " + name + " lea 1", "chain " + name + " ann 1", "number " + name + " ann one"}[i%4])
	}
	isInt(t, "items", len(words(a.Answer("items"))), 64)
	for _, c := range []struct {
		line string
		want api.Errno
	}{
		{"data new tom 1", api.ErrFull}, {"cal new lea 1", api.ErrFull}, {"chain new ann 1", api.ErrFull}, {"number new ann one", api.ErrFull},
		{"data new ann 1", api.ErrHand}, {"data c1 tom 1", api.ErrTwice}, {"chain new ann +", api.ErrForm}, {"chain d1 ann 1", api.ErrTwice}, {"chain one ann $1", api.ErrSize},
		{"number n1 ann one", api.ErrTwice}, {"number new ann none", api.ErrNone}, {"number new ann one d1", api.ErrSize}, {"number new ann inverse zero", api.ErrZero},
	} {
		fails(t, a, c.line, c.want)
	}
	does(t, a, "data d1 tom 9", "cal c1 lea 9", "chain one ann 2", "release n1 oli", "hand more tower")
	isText(t, "new versions of what is there", a.Answer("ask ann n1"), "81 3")
}
