package frame

import (
	"math"
	"math/rand"
	"slices"
	"testing"

	"fluxmast/api"
)

// P2.1 and P2.7: loggers.

// run is a logger behind events that all succeed.
func run(t testing.TB, l Logger, events ...int) Logger {
	t.Helper()
	for _, event := range events {
		next, e := Step(l, event)
		if e != api.OK {
			t.Fatalf("Step %d: error %d", event, e)
		}
		l = next
	}
	return l
}

func sameLogger(a, b Logger) bool {
	return a.On == b.On && slices.Equal(a.Counts, b.Counts) && slices.Equal(a.Held, b.Held) && slices.Equal(a.Lost, b.Lost)
}

func isLogger(t testing.TB, what string, got, want Logger) {
	t.Helper()
	if !sameLogger(got, want) {
		t.Errorf("%s: %v, want %v", what, got, want)
	}
	isCode(t, what, CheckLogger(got), api.OK)
}

// held is frames of a life from a number on.
func held(life, from, count int) [][2]int {
	var l [][2]int
	for i := range count {
		l = append(l, [2]int{life, from + i})
	}
	return l
}

// singles is as many gaps of a life of one frame each, with one frame between them, from a number on.
func singles(life, from, count int) []api.Gap {
	var l []api.Gap
	for i := range count {
		l = append(l, gap(life, from+2*i, from+2*i+1))
	}
	return l
}

func TestEventConstants(t *testing.T) {
	if Power != 0 || Fail != 1 || Take != 2 || Send != 3 {
		t.Error("the constants of the events are not 0, 1, 2 and 3")
	}
}

func TestStep(t *testing.T) {
	isLogger(t, "Power", run(t, Logger{}, Power), Logger{On: true, Counts: []int{0}})
	isLogger(t, "Power and Fail", run(t, Logger{}, Power, Fail), Logger{Counts: []int{0}})
	isLogger(t, "Take", run(t, Logger{}, Power, Take), Logger{On: true, Counts: []int{1}, Held: held(1, 0, 1)})
	isLogger(t, "Send", run(t, Logger{}, Power, Take, Take, Send), Logger{On: true, Counts: []int{2}, Held: held(1, 1, 1)})
	isLogger(t, "two lives", run(t, Logger{}, Power, Take, Fail, Power, Take, Send), Logger{On: true, Counts: []int{1, 1}, Held: held(2, 0, 1)})
	isLogger(t, "what is held stays", run(t, Logger{}, Power, Take, Fail), Logger{Counts: []int{1}, Held: held(1, 0, 1)})
	full := run(t, Logger{}, Power, Take, Take, Take, Take, Take, Take, Take, Take)
	isLogger(t, "eight frames", full, Logger{On: true, Counts: []int{8}, Held: held(1, 0, 8)})
	nine := run(t, full, Take)
	isLogger(t, "nine frames", nine, Logger{On: true, Counts: []int{9}, Held: held(1, 1, 8), Lost: []api.Gap{gap(1, 0, 1)}})
	ten := Logger{Counts: []int{10}, Held: held(1, 2, 8), Lost: []api.Gap{gap(1, 0, 2)}}
	isLogger(t, "what is lost stays", run(t, nine, Take, Fail), ten)
	last := Logger{On: true, Counts: []int{1<<30 - 1}}
	isLogger(t, "the last frame of a life", run(t, last, Take), Logger{On: true, Counts: []int{1 << 30}, Held: [][2]int{{1, 1<<30 - 1}}})
	isLogger(t, "the last life", run(t, Logger{Counts: make([]int, 15)}, Power), Logger{On: true, Counts: make([]int, 16)})
}

func TestGiveUp(t *testing.T) {
	// The oldest frame is the one with the number 5 of the life 2, unless another one is handed in.
	oldest := [2]int{2, 5}
	for _, c := range []struct {
		what       string
		lost, want []api.Gap
	}{
		{"the first gap", nil, []api.Gap{gap(2, 5, 6)}},
		{"a gap that ends at it", []api.Gap{gap(2, 1, 5)}, []api.Gap{gap(2, 1, 6)}},
		{"a gap that begins behind it", []api.Gap{gap(2, 6, 8)}, []api.Gap{gap(2, 5, 8)}},
		{"gaps on both sides", []api.Gap{gap(2, 1, 5), gap(2, 6, 8)}, []api.Gap{gap(2, 1, 8)}},
		{"gaps that are away", []api.Gap{gap(2, 1, 4), gap(2, 7, 8)}, []api.Gap{gap(2, 1, 4), gap(2, 5, 6), gap(2, 7, 8)}},
		{"gaps of other lives", []api.Gap{gap(1, 1, 5), gap(3, 6, 8)}, []api.Gap{gap(1, 1, 5), gap(2, 5, 6), gap(3, 6, 8)}},
		{"gaps of the same numbers", []api.Gap{gap(1, 5, 6), gap(3, 5, 6)}, []api.Gap{gap(1, 5, 6), gap(2, 5, 6), gap(3, 5, 6)}},
	} {
		l := Logger{On: true, Counts: []int{20, 20, 20}, Held: append([][2]int{oldest}, held(3, 13, 7)...), Lost: c.lost}
		want := Logger{On: true, Counts: []int{20, 20, 21}, Held: held(3, 13, 8), Lost: c.want}
		isLogger(t, "Take with "+c.what, run(t, l, Take), want)
	}
}

func TestGiveUpWithManyGaps(t *testing.T) {
	for _, c := range []struct {
		what  string
		first int
		lost  []api.Gap
		want  api.Errno
	}{
		{"63 gaps", 500, singles(1, 0, 63), api.OK},
		{"64 gaps that are away", 500, singles(1, 0, 64), api.ErrFull},
		{"64 gaps, the last of which becomes longer", 127, singles(1, 0, 64), api.OK},
		{"64 gaps, the first of which begins behind it", 3, singles(1, 4, 64), api.OK},
		{"64 gaps, two of which become one", 1, singles(1, 0, 64), api.OK},
		{"64 gaps that are behind", 2, singles(1, 4, 64), api.ErrFull},
	} {
		l := Logger{On: true, Counts: []int{1000}, Held: append([][2]int{{1, c.first}}, held(1, 993, 7)...), Lost: c.lost}
		next, e := Step(l, Take)
		isCode(t, "Take with "+c.what, e, c.want)
		if c.want != api.OK {
			if !sameLogger(next, Logger{}) {
				t.Errorf("Take with %s: a logger with an error", c.what)
			}
			continue
		}
		isCode(t, "Take with "+c.what, CheckLogger(next), api.OK)
	}
}

func TestStepErrors(t *testing.T) {
	on := Logger{On: true, Counts: []int{0}}
	off := Logger{Counts: []int{1}, Held: held(1, 0, 1)}
	for _, c := range []struct {
		what  string
		l     Logger
		event int
		want  api.Errno
	}{
		{"an event below 0", on, -1, api.ErrArg},
		{"an event above 3", on, 4, api.ErrArg},
		{"an event far above", on, math.MaxInt, api.ErrArg},
		{"an event far below", on, math.MinInt, api.ErrArg},
		{"an invalid logger and event", Logger{Counts: []int{1}, Held: [][2]int{{1, 0}, {1, 0}}}, 7, api.ErrOrder},
		{"Power with power", on, Power, api.ErrOrder},
		{"Power with power and 16 lives", Logger{On: true, Counts: make([]int, 16)}, Power, api.ErrOrder},
		{"Power with 16 lives", Logger{Counts: make([]int, 16)}, Power, api.ErrFull},
		{"Fail without power", off, Fail, api.ErrOrder},
		{"Fail of a new logger", Logger{}, Fail, api.ErrOrder},
		{"Take without power", off, Take, api.ErrOrder},
		{"Take of a new logger", Logger{}, Take, api.ErrOrder},
		{"Take without power with 2^30 frames", Logger{Counts: []int{1 << 30}}, Take, api.ErrOrder},
		{"Take with 2^30 frames", Logger{On: true, Counts: []int{0, 1 << 30}}, Take, api.ErrFull},
		{"Take with 2^30 frames in an earlier life", Logger{On: true, Counts: []int{1 << 30, 0}}, Take, api.OK},
		{"Send without power", off, Send, api.ErrOrder},
		{"Send without power and frames", Logger{}, Send, api.ErrOrder},
		{"Send without frames", on, Send, api.ErrNone},
	} {
		next, e := Step(c.l, c.event)
		isCode(t, c.what, e, c.want)
		if c.want != api.OK && !sameLogger(next, Logger{}) {
			t.Errorf("%s: a logger with an error", c.what)
		}
	}
}

// badLoggers is loggers with their errors.
func badLoggers() []struct {
	what string
	l    Logger
	want api.Errno
} {
	two := []int{5, 5}
	return []struct {
		what string
		l    Logger
		want api.Errno
	}{
		{"17 lives", Logger{Counts: append(make([]int, 16), -1)}, api.ErrSize},
		{"9 frames held", Logger{Counts: []int{-1}, Held: make([][2]int, 9)}, api.ErrSize},
		{"65 gaps", Logger{Counts: []int{-1}, Lost: make([]api.Gap, 65)}, api.ErrSize},
		{"a count below 0", Logger{Counts: []int{0, -1}, Held: held(9, 0, 1)}, api.ErrArg},
		{"a count above 2^30", Logger{Counts: []int{1<<30 + 1}}, api.ErrArg},
		{"power without a life", Logger{On: true}, api.ErrArg},
		{"power without a life, and frames", Logger{On: true, Lost: []api.Gap{gap(1, 1, 0)}}, api.ErrArg},
		{"a frame of the life 0", Logger{Counts: two, Held: [][2]int{{0, 0}}}, api.ErrArg},
		{"a frame of a life that has not begun", Logger{Counts: two, Held: [][2]int{{3, 0}}}, api.ErrArg},
		{"a frame of a life below 0", Logger{Counts: two, Held: [][2]int{{math.MinInt, 0}}}, api.ErrArg},
		{"a frame that is not below the count", Logger{Counts: two, Held: [][2]int{{2, 5}}}, api.ErrArg},
		{"a frame below 0", Logger{Counts: two, Held: [][2]int{{2, -1}}}, api.ErrArg},
		{"a frame twice", Logger{Counts: two, Held: [][2]int{{2, 1}, {2, 1}}}, api.ErrOrder},
		{"frames out of order", Logger{Counts: two, Held: [][2]int{{1, 1}, {1, 0}}}, api.ErrOrder},
		{"lives of frames out of order", Logger{Counts: two, Held: [][2]int{{2, 1}, {1, 2}}}, api.ErrOrder},
		{"frames out of order ahead of an invalid one", Logger{Counts: two, Held: [][2]int{{1, 1}, {1, 0}, {9, 9}}}, api.ErrOrder},
		{"a frame that is invalid and out of order", Logger{Counts: two, Held: [][2]int{{1, 1}, {0, 0}}}, api.ErrArg},
		{"frames out of order and an invalid gap", Logger{Counts: two, Held: [][2]int{{1, 1}, {1, 0}}, Lost: []api.Gap{{}}}, api.ErrOrder},
		{"a gap of the life 0", Logger{Counts: two, Lost: []api.Gap{gap(0, 0, 0)}}, api.ErrArg},
		{"a gap of a life that has not begun", Logger{Counts: two, Lost: []api.Gap{gap(3, 0, 0)}}, api.ErrArg},
		{"a gap from below 0", Logger{Counts: two, Lost: []api.Gap{gap(1, -1, 1)}}, api.ErrArg},
		{"a gap to above the count", Logger{Counts: two, Lost: []api.Gap{gap(1, 0, 6)}}, api.ErrArg},
		{"an empty gap", Logger{Counts: two, Lost: []api.Gap{gap(1, 2, 2)}}, api.ErrOrder},
		{"a turned gap", Logger{Counts: two, Lost: []api.Gap{gap(1, 3, 2)}}, api.ErrOrder},
		{"a turned gap to below 0", Logger{Counts: two, Lost: []api.Gap{gap(1, 3, -2)}}, api.ErrOrder},
		{"gaps that touch", Logger{Counts: two, Lost: []api.Gap{gap(1, 0, 2), gap(1, 2, 3)}}, api.ErrOrder},
		{"gaps that overlap", Logger{Counts: two, Lost: []api.Gap{gap(1, 0, 2), gap(1, 1, 3)}}, api.ErrOrder},
		{"gaps out of order", Logger{Counts: two, Lost: []api.Gap{gap(1, 3, 4), gap(1, 0, 1)}}, api.ErrOrder},
		{"lives of gaps out of order", Logger{Counts: two, Lost: []api.Gap{gap(2, 0, 1), gap(1, 3, 4)}}, api.ErrOrder},
		{"gaps out of order ahead of an invalid one", Logger{Counts: two, Lost: []api.Gap{gap(2, 0, 1), gap(1, 3, 4), gap(9, 9, 9)}}, api.ErrOrder},
		{"a gap that is invalid and out of order", Logger{Counts: two, Lost: []api.Gap{gap(2, 0, 1), gap(1, 3, 6)}}, api.ErrArg},
		{"a frame in the beginning of a gap", Logger{Counts: two, Held: held(2, 1, 1), Lost: []api.Gap{gap(2, 1, 3)}}, api.ErrClash},
		{"a frame in the end of a gap", Logger{Counts: two, Held: held(2, 2, 1), Lost: []api.Gap{gap(1, 0, 1), gap(2, 1, 3)}}, api.ErrClash},
		{"the last frame held in a gap", Logger{Counts: two, Held: held(2, 2, 3), Lost: []api.Gap{gap(2, 4, 5)}}, api.ErrClash},
		{"a frame in a gap, and gaps that touch", Logger{Counts: two, Held: held(2, 1, 1), Lost: []api.Gap{gap(2, 1, 3), gap(2, 3, 4)}}, api.ErrOrder},
	}
}

func TestCheckLogger(t *testing.T) {
	for _, c := range []struct {
		what string
		l    Logger
	}{
		{"a new logger", Logger{}},
		{"empty lists", Logger{Counts: []int{}, Held: [][2]int{}, Lost: []api.Gap{}}},
		{"16 lives", Logger{On: true, Counts: slices.Repeat([]int{1 << 30}, 16)}},
		{"8 frames and 64 gaps", Logger{Counts: []int{200}, Held: held(1, 192, 8), Lost: singles(1, 0, 64)}},
		{"a gap to the count", Logger{Counts: []int{0, 5}, Lost: []api.Gap{gap(2, 0, 5)}}},
		{"a gap between frames", Logger{Counts: []int{5}, Held: [][2]int{{1, 0}, {1, 3}}, Lost: []api.Gap{gap(1, 1, 3)}}},
		{"a gap of another life", Logger{Counts: []int{5, 5}, Held: held(1, 2, 1), Lost: []api.Gap{gap(2, 1, 5)}}},
		{"gaps with one frame between them", Logger{Counts: []int{5}, Lost: []api.Gap{gap(1, 0, 2), gap(1, 3, 4)}}},
		{"gaps of two lives", Logger{Counts: []int{5, 5}, Lost: []api.Gap{gap(1, 3, 4), gap(2, 0, 4)}}},
	} {
		isCode(t, c.what, CheckLogger(c.l), api.OK)
	}
	for _, c := range badLoggers() {
		isCode(t, c.what, CheckLogger(c.l), c.want)
		next, e := Step(c.l, Power)
		isCode(t, "Step with "+c.what, e, c.want)
		if !sameLogger(next, Logger{}) {
			t.Errorf("Step with %s: a logger with an error", c.what)
		}
		life, number, e := Untold(c.l, make([][2]int, 65))
		isCode(t, "Untold with "+c.what, e, c.want)
		if life != 0 || number != 0 {
			t.Errorf("Untold with %s: %d and %d with an error", c.what, life, number)
		}
	}
}

func TestUntold(t *testing.T) {
	l := Logger{Counts: []int{4, 0, 3}, Held: [][2]int{{1, 3}, {3, 0}}, Lost: []api.Gap{gap(1, 1, 3), gap(3, 2, 3)}}
	many := Logger{Counts: slices.Repeat([]int{1 << 30}, 16)}
	lost := Logger{Counts: slices.Repeat([]int{1 << 30}, 16)}
	for life := range 16 {
		lost.Lost = append(lost.Lost, gap(life+1, 0, 1<<30))
	}
	nearly := Logger{Counts: lost.Counts, Lost: slices.Clone(lost.Lost)}
	nearly.Lost[15].To--
	for _, c := range []struct {
		what         string
		l            Logger
		stored       [][2]int
		life, number int
	}{
		{"a new logger", Logger{}, nil, 0, 0},
		{"a new logger and frames that are none", Logger{}, [][2]int{{1, 0}, {0, 0}}, 0, 0},
		{"nothing stored", l, nil, 1, 0},
		{"one stored", l, [][2]int{{1, 0}}, 3, 1},
		{"all stored", l, [][2]int{{3, 1}, {1, 0}}, 0, 0},
		{"one that is told otherwise", l, [][2]int{{1, 1}, {1, 3}, {3, 0}}, 1, 0},
		{"all, and what is no frame", l, [][2]int{{1, 4}, {1, -1}, {2, 0}, {4, 0}, {1, 0}, {1, 0}, {math.MaxInt, math.MinInt}, {3, 1}}, 0, 0},
		{"another life stored", l, [][2]int{{3, 0}, {3, 1}, {2, 0}}, 1, 0},
		{"many frames", many, held(1, 0, 64), 1, 64},
		{"many frames lost", lost, nil, 0, 0},
		{"many frames lost but one", nearly, nil, 16, 1<<30 - 1},
		{"many frames lost, and the one stored", nearly, [][2]int{{16, 1<<30 - 1}}, 0, 0},
	} {
		life, number, e := Untold(c.l, c.stored)
		isCode(t, "Untold of "+c.what, e, api.OK)
		if life != c.life || number != c.number {
			t.Errorf("Untold of %s: %d and %d, want %d and %d", c.what, life, number, c.life, c.number)
		}
	}
	life, number, e := Untold(l, make([][2]int, 65))
	isCode(t, "Untold with 65 stored", e, api.ErrSize)
	if life != 0 || number != 0 {
		t.Errorf("Untold with 65 stored: %d and %d", life, number)
	}
	_, _, e = Untold(l, make([][2]int, 64))
	isCode(t, "Untold with 64 stored", e, api.OK)
}

// story is what truly happens to a logger's frames.
type story struct {
	on          bool
	counts      []int
	held, taken [][2]int
	sent, lost  map[[2]int]bool
}

// happen lets an event happen, if it can.
func (s *story) happen(event int) api.Errno {
	switch {
	case event == Power && s.on, event != Power && !s.on:
		return api.ErrOrder
	case event == Power && len(s.counts) == api.MaxLives:
		return api.ErrFull
	case event == Power:
		s.on, s.counts = true, append(s.counts, 0)
	case event == Fail:
		s.on = false
	case event == Send && len(s.held) == 0:
		return api.ErrNone
	case event == Send:
		s.sent[s.held[0]] = true
		s.held = s.held[1:]
	default:
		life := len(s.counts)
		frame := [2]int{life, s.counts[life-1]}
		s.counts[life-1]++
		s.held, s.taken = append(s.held, frame), append(s.taken, frame)
		if len(s.held) > api.MaxHeld {
			s.lost[s.held[0]] = true
			s.held = s.held[1:]
		}
	}
	return api.OK
}

// gaps is the lost frames as gaps.
func (s *story) gaps() []api.Gap {
	var l []api.Gap
	for _, frame := range s.taken {
		last := len(l) - 1
		switch {
		case !s.lost[frame]:
		case last >= 0 && l[last].Life == frame[0] && l[last].To == frame[1]:
			l[last].To++
		default:
			l = append(l, gap(frame[0], frame[1], frame[1]+1))
		}
	}
	return l
}

func randomEvent(r *rand.Rand, sends int) int {
	switch n := r.Intn(100); {
	case n < 4:
		return Fail
	case n < 10:
		return Power
	case n < 10+sends:
		return Send
	}
	return Take
}

// Whatever happens, the logger tells the true story: each frame has arrived, is held, or is told as lost.
func TestStories(t *testing.T) {
	r := seeded()
	for range 200 {
		s := story{sent: map[[2]int]bool{}, lost: map[[2]int]bool{}}
		var l Logger
		var stored [][2]int
		sends := r.Intn(80)
		for range 300 {
			event := randomEvent(r, sends)
			if event == Send && len(stored) == api.MaxFrames {
				continue
			}
			before := len(s.sent)
			want := s.happen(event)
			next, e := Step(l, event)
			isCode(t, "Step", e, want)
			if e != api.OK {
				continue
			}
			if len(s.sent) > before {
				stored = append(stored, l.Held[0])
			}
			l = next
			if !sameLogger(l, Logger{s.on, s.counts, s.held, s.gaps()}) {
				t.Fatalf("the logger %v, want %v", l, s)
			}
			if life, number, e := Untold(l, stored); life != 0 || number != 0 || e != api.OK {
				t.Fatalf("the frame %d of the life %d is untold, error %d", number, life, e)
			}
		}
		tellOne(t, r, l, stored)
		once := map[[2]int]bool{}
		for _, frame := range s.taken {
			once[frame] = true
		}
		if len(once) != len(s.taken) {
			t.Fatal("a life and number came twice")
		}
	}
}

// tellOne takes one of the frames that have arrived away: it is the one that is untold then.
func tellOne(t *testing.T, r *rand.Rand, l Logger, stored [][2]int) {
	if len(stored) == 0 {
		return
	}
	i := r.Intn(len(stored))
	gone := stored[i]
	life, number, e := Untold(l, slices.Delete(slices.Clone(stored), i, i+1))
	if life != gone[0] || number != gone[1] || e != api.OK {
		t.Fatalf("untold are %d and %d, want %v, error %d", life, number, gone, e)
	}
}

func TestLoggerMemory(t *testing.T) {
	counts, countsSame := behind(t, []int{20, 20}, 7)
	frames, framesSame := behind(t, append([][2]int{{1, 3}}, held(2, 13, 7)...), [2]int{9, 9})
	lost, lostSame := behind(t, []api.Gap{gap(1, 1, 3), gap(1, 4, 6), gap(2, 0, 1)}, api.Gap{Life: 9})
	l := Logger{On: true, Counts: counts, Held: frames, Lost: lost}
	for _, event := range []int{Power, Fail, Take, Send} {
		next, _ := Step(l, event)
		_, _ = append(next.Counts, 1), append(next.Held, [2]int{})
		_ = append(next.Lost, api.Gap{})
		for i := range next.Counts {
			next.Counts[i] = 0
		}
		for i := range next.Held {
			next.Held[i] = [2]int{}
		}
		for i := range next.Lost {
			next.Lost[i] = api.Gap{}
		}
	}
	off := l
	off.On = false
	next, _ := Step(off, Power)
	_ = append(next.Counts, 1)
	_, _, _ = Untold(l, frames)
	countsSame()
	framesSame()
	lostSame()
}

// P1: no call panics or goes on for long, and an error comes alone.
func TestAnyLogger(t *testing.T) {
	r := seeded()
	for range 20000 {
		l := Logger{On: r.Intn(2) == 0}
		for range r.Intn(4) {
			l.Counts = append(l.Counts, extreme(r))
		}
		for range r.Intn(3) {
			l.Held = append(l.Held, [2]int{r.Intn(4), extreme(r)})
		}
		for range r.Intn(3) {
			l.Lost = append(l.Lost, gap(r.Intn(4), extreme(r), extreme(r)))
		}
		event := r.Intn(6) - 1
		next, e := Step(l, event)
		if code := CheckLogger(l); code != api.OK {
			isCode(t, "Step", e, code)
		}
		if e != api.OK && !sameLogger(next, Logger{}) {
			t.Fatal("a logger with an error")
		}
		if e == api.OK {
			isCode(t, "CheckLogger of Step", CheckLogger(next), api.OK)
		}
		if life, number, e := Untold(l, l.Held); e != api.OK && (life != 0 || number != 0) {
			t.Fatal("a frame with an error")
		}
	}
}
