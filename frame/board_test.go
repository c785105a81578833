package frame

import (
	"math/rand"
	"slices"
	"strings"
	"testing"

	"fluxmast/api"
)

// P2.1 and P2.8: watchers.

// watched is a board with watchers.
func watched(t testing.TB, names ...string) *Board {
	t.Helper()
	b := NewBoard()
	for _, name := range names {
		isCode(t, "Watch "+name, b.Watch(name), api.OK)
	}
	return b
}

// hears tests what a watcher hears, by the From of the gaps.
func hears(t testing.TB, b *Board, name string, want ...int) {
	t.Helper()
	l, e := b.Hear(name)
	isCode(t, "Hear "+name, e, api.OK)
	if len(l) != len(want) {
		t.Fatalf("%s hears %v, want %v", name, l, want)
	}
	for i, g := range l {
		if g != gap(-1, want[i], 5) {
			t.Fatalf("%s hears %v, want %v", name, l, want)
		}
	}
}

// tells tests who is dropped, when watchers are told a gap.
func tells(t testing.TB, b *Board, from int, want ...string) {
	t.Helper()
	if got := b.Tell(gap(-1, from, 5)); !slices.Equal(got, want) {
		t.Fatalf("Tell drops %v, want %v", got, want)
	}
}

func isWatched(t testing.TB, b *Board, want ...string) {
	t.Helper()
	if got := b.Watchers(); !slices.Equal(got, want) {
		t.Fatalf("Watchers are %v, want %v", got, want)
	}
}

func TestNames(t *testing.T) {
	for _, name := range []string{"a", "z", "0", "9", "-", "tower-7", strings.Repeat("a", 24)} {
		isCode(t, "Watch "+name, NewBoard().Watch(name), api.OK)
	}
	for _, name := range []string{
		"", strings.Repeat("a", 25), "A", "a b", " a", "a_", "a.", "`", "{", "/", ":", ",", "ä", "\x00", "a\n", "\xff", strings.Repeat("ß", 12),
	} {
		b := NewBoard()
		isCode(t, "Watch "+name, b.Watch(name), api.ErrForm)
		isWatched(t, b)
	}
}

func TestWatch(t *testing.T) {
	b := watched(t, "b", "a")
	isWatched(t, b, "b", "a")
	isCode(t, "Watch a twice", b.Watch("a"), api.ErrTwice)
	isWatched(t, b, "b", "a")
	for _, name := range []string{"c", "d", "e", "f", "g", "h"} {
		isCode(t, "Watch", b.Watch(name), api.OK)
	}
	isCode(t, "Watch of the ninth", b.Watch("i"), api.ErrFull)
	isCode(t, "Watch of the ninth that is no name", b.Watch("I"), api.ErrForm)
	isCode(t, "Watch of one twice with eight", b.Watch("h"), api.ErrTwice)
	isWatched(t, b, "b", "a", "c", "d", "e", "f", "g", "h")
	isCode(t, "Leave", b.Leave("a"), api.OK)
	isCode(t, "Watch again", b.Watch("i"), api.OK)
	isWatched(t, b, "b", "c", "d", "e", "f", "g", "h", "i")
}

func TestLeave(t *testing.T) {
	b := watched(t, "a", "b")
	tells(t, b, 1)
	isCode(t, "Leave c", b.Leave("c"), api.ErrNone)
	isCode(t, "Leave nothing", b.Leave(""), api.ErrNone)
	isCode(t, "Leave a", b.Leave("a"), api.OK)
	isCode(t, "Leave a again", b.Leave("a"), api.ErrNone)
	_, e := b.Hear("a")
	isCode(t, "Hear of one who has left", e, api.ErrNone)
	isWatched(t, b, "b")
	isCode(t, "Watch a again", b.Watch("a"), api.OK)
	isWatched(t, b, "b", "a")
	hears(t, b, "a")
	hears(t, b, "b", 1)
}

func TestHear(t *testing.T) {
	b := watched(t, "a")
	hears(t, b, "a")
	tells(t, b, 3)
	isCode(t, "Watch b", b.Watch("b"), api.OK)
	tells(t, b, 1)
	tells(t, b, 1)
	hears(t, b, "b", 1, 1)
	hears(t, b, "a", 3, 1, 1)
	hears(t, b, "a")
	tells(t, b, 9)
	hears(t, b, "a", 9)
	hears(t, b, "b", 9)
	for _, name := range []string{"c", "", "A"} {
		l, e := b.Hear(name)
		if isCode(t, "Hear "+name, e, api.ErrNone); len(l) > 0 {
			t.Error("gaps with an error")
		}
	}
}

func TestTellDrops(t *testing.T) {
	b := watched(t, "late", "a", "keen")
	for i := range 8 {
		tells(t, b, i)
		if i == 3 {
			hears(t, b, "keen", 0, 1, 2, 3)
			isCode(t, "Watch new", b.Watch("new"), api.OK)
		}
	}
	isWatched(t, b, "late", "a", "keen", "new")
	tells(t, b, 8, "late", "a")
	isWatched(t, b, "keen", "new")
	_, e := b.Hear("late")
	isCode(t, "Hear of one who was dropped", e, api.ErrNone)
	isCode(t, "Leave of one who was dropped", b.Leave("a"), api.ErrNone)
	tells(t, b, 9)
	isCode(t, "Watch again", b.Watch("late"), api.OK)
	hears(t, b, "late")
	hears(t, b, "keen", 4, 5, 6, 7, 8, 9)
	hears(t, b, "new", 4, 5, 6, 7, 8, 9)
	for i := range 8 {
		tells(t, b, i)
	}
	hears(t, b, "keen", 0, 1, 2, 3, 4, 5, 6, 7)
	tells(t, b, 8, "new", "late")
	isWatched(t, b, "keen")
}

func TestBoardOfNil(t *testing.T) {
	var b *Board
	isCode(t, "Watch", b.Watch("a"), api.ErrArg)
	isCode(t, "Watch of no name", b.Watch("A"), api.ErrArg)
	isCode(t, "Leave", b.Leave("a"), api.ErrNone)
	l, e := b.Hear("a")
	isCode(t, "Hear", e, api.ErrNone)
	if len(l) > 0 || len(b.Tell(api.Gap{})) > 0 || len(b.Watchers()) > 0 {
		t.Error("a nil Board has something")
	}
}

func TestBoardMemory(t *testing.T) {
	b, other := watched(t, "a", "b"), NewBoard()
	isWatched(t, other)
	names := b.Watchers()
	names[0] = "x"
	_ = append(names[:1], "y")
	isWatched(t, b, "a", "b")
	tells(t, b, 1)
	l, _ := b.Hear("a")
	l[0].From = 7
	hears(t, b, "b", 1)
}

// listener is what a watcher has been told and has not heard.
type listener struct {
	name   string
	unsaid []int
}

// Whoever comes, goes and hears: each one hears what was told since, in order, each gap once, or is dropped and named.
func TestBoardInAnyOrder(t *testing.T) {
	r := seeded()
	for range 50 {
		b := NewBoard()
		var l []listener
		for told := range 400 {
			name := string(rune('a' + r.Intn(10)))
			at := slices.IndexFunc(l, func(x listener) bool { return x.name == name })
			switch r.Intn(8) {
			case 0:
				l = boardWatch(t, b, l, name, at)
			case 1:
				l = boardLeave(t, r, b, l, name, at)
			case 2:
				if at >= 0 {
					hears(t, b, name, l[at].unsaid...)
					l[at].unsaid = nil
				}
			default:
				l = boardTell(t, b, l, told)
			}
			var names []string
			for _, x := range l {
				names = append(names, x.name)
			}
			isWatched(t, b, names...)
		}
	}
}

func boardWatch(t *testing.T, b *Board, l []listener, name string, at int) []listener {
	want := api.OK
	switch {
	case at >= 0:
		want = api.ErrTwice
	case len(l) == 8:
		want = api.ErrFull
	}
	if isCode(t, "Watch", b.Watch(name), want); want == api.OK {
		return append(l, listener{name: name})
	}
	return l
}

func boardLeave(t *testing.T, r *rand.Rand, b *Board, l []listener, name string, at int) []listener {
	switch {
	case r.Intn(3) > 0:
		return l
	case at < 0:
		isCode(t, "Leave", b.Leave(name), api.ErrNone)
		return l
	}
	isCode(t, "Leave", b.Leave(name), api.OK)
	return slices.Delete(l, at, at+1)
}

func boardTell(t *testing.T, b *Board, l []listener, told int) []listener {
	var left []listener
	var gone []string
	for _, x := range l {
		if len(x.unsaid) == 8 {
			gone = append(gone, x.name)
			continue
		}
		x.unsaid = append(x.unsaid, told)
		left = append(left, x)
	}
	tells(t, b, told, gone...)
	return left
}
