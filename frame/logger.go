package frame

import (
	"cmp"
	"slices"

	"fluxmast/api"
)

// Logger is a logger: whether it has power, how many frames it has sealed in each life, the frames that it holds (life and number), and those that it had to give up.
type Logger struct {
	On     bool
	Counts []int
	Held   [][2]int
	Lost   []api.Gap
}

// Events of a logger.
const (
	Power = iota
	Fail
	Take
	Send
)

const maxTaken = 1 << 30 // frames that a logger takes in a life

// Step returns a logger behind an event.
func Step(l Logger, event int) (Logger, api.Errno) {
	if e := CheckLogger(l); e != api.OK {
		return Logger{}, e
	}
	next := Logger{On: l.On, Counts: slices.Clone(l.Counts), Held: slices.Clone(l.Held), Lost: slices.Clone(l.Lost)}
	events := next.events()
	if event < 0 || event >= len(events) {
		return Logger{}, api.ErrArg
	}
	if e := events[event](); e != api.OK {
		return Logger{}, e
	}
	return next, api.OK
}

// events returns what each event does with the logger.
func (l *Logger) events() [4]func() api.Errno {
	on := func(do func() api.Errno) func() api.Errno {
		return func() api.Errno {
			if !l.On {
				return api.ErrOrder
			}
			return do()
		}
	}
	return [...]func() api.Errno{
		Power: func() api.Errno {
			switch {
			case l.On:
				return api.ErrOrder
			case len(l.Counts) >= api.MaxLives:
				return api.ErrFull
			}
			l.On, l.Counts = true, append(l.Counts, 0)
			return api.OK
		},
		Fail: on(func() api.Errno {
			l.On = false
			return api.OK
		}),
		Take: on(l.take),
		Send: on(func() api.Errno {
			if len(l.Held) == 0 {
				return api.ErrNone
			}
			l.Held = l.Held[1:]
			return api.OK
		}),
	}
}

// take takes a frame in the last life.
func (l *Logger) take() api.Errno {
	life := len(l.Counts)
	number := l.Counts[life-1]
	if number >= maxTaken {
		return api.ErrFull
	}
	l.Counts[life-1]++
	l.Held = append(l.Held, [2]int{life, number})
	if len(l.Held) <= api.MaxHeld {
		return api.OK
	}
	oldest := l.Held[0]
	l.Held = l.Held[1:]
	return l.lose(oldest)
}

// lose tells a frame as lost.
func (l *Logger) lose(frame [2]int) api.Errno {
	g := api.Gap{Life: frame[0], From: frame[1], To: frame[1] + 1}
	place, _ := slices.BinarySearchFunc(l.Lost, g, compareGaps)
	l.Lost = joinTouching(slices.Insert(l.Lost, place, g))
	if len(l.Lost) > api.MaxSeries {
		return api.ErrFull
	}
	return api.OK
}

func compareGaps(a, b api.Gap) int {
	return cmp.Or(cmp.Compare(a.Life, b.Life), cmp.Compare(a.From, b.From))
}

// joinTouching returns ascending gaps, of which those that touch are one.
func joinTouching(gaps []api.Gap) []api.Gap {
	var joined []api.Gap
	for _, g := range gaps {
		last := len(joined) - 1
		if last >= 0 && joined[last].Life == g.Life && joined[last].To == g.From {
			joined[last].To = g.To
			continue
		}
		joined = append(joined, g)
	}
	return joined
}

// CheckLogger returns the error of a logger.
func CheckLogger(l Logger) api.Errno {
	if len(l.Counts) > api.MaxLives || len(l.Held) > api.MaxHeld || len(l.Lost) > api.MaxSeries {
		return api.ErrSize
	}
	for _, count := range l.Counts {
		if !upTo(count, maxTaken) {
			return api.ErrArg
		}
	}
	if l.On && len(l.Counts) == 0 {
		return api.ErrArg
	}
	if e := l.checkHeld(); e != api.OK {
		return e
	}
	if e := l.checkLost(); e != api.OK {
		return e
	}
	for _, frame := range l.Held {
		if _, lost := l.lostWith(frame); lost {
			return api.ErrClash
		}
	}
	return api.OK
}

func (l *Logger) checkHeld() api.Errno {
	for i, frame := range l.Held {
		switch {
		case frame[1] < 0 || frame[1] >= l.count(frame[0]):
			return api.ErrArg
		case i > 0 && compareFrames(l.Held[i-1], frame) >= 0:
			return api.ErrOrder
		}
	}
	return api.OK
}

func (l *Logger) checkLost() api.Errno {
	for i, g := range l.Lost {
		switch {
		case !l.began(g.Life) || g.From < 0 || g.To > l.count(g.Life):
			return api.ErrArg
		case g.From >= g.To || i > 0 && !apart(l.Lost[i-1], g):
			return api.ErrOrder
		}
	}
	return api.OK
}

// apart reports whether the second gap is behind the first one, and does not touch it.
func apart(a, b api.Gap) bool {
	return a.Life < b.Life || a.Life == b.Life && a.To < b.From
}

func compareFrames(a, b [2]int) int {
	return slices.Compare(a[:], b[:])
}

func (l *Logger) began(life int) bool {
	return 1 <= life && life <= len(l.Counts)
}

// count returns how many frames a life has; a life that has not begun has none.
func (l *Logger) count(life int) int {
	if !l.began(life) {
		return 0
	}
	return l.Counts[life-1]
}

// lostWith returns the gap in which a frame is told as lost, if it is.
func (l *Logger) lostWith(frame [2]int) (api.Gap, bool) {
	for _, g := range l.Lost {
		if g.Life == frame[0] && g.From <= frame[1] && frame[1] < g.To {
			return g, true
		}
	}
	return api.Gap{}, false
}

// Untold returns the first frame that is neither stored, nor held, nor told as lost; life 0 if there is none.
func Untold(l Logger, stored [][2]int) (life, number int, e api.Errno) {
	if e := CheckLogger(l); e != api.OK {
		return 0, 0, e
	}
	if len(stored) > api.MaxFrames {
		return 0, 0, api.ErrSize
	}
	for i, count := range l.Counts {
		if number := l.firstUntold(i+1, stored); number < count {
			return i + 1, number, api.OK
		}
	}
	return 0, 0, api.OK
}

// firstUntold returns the first number of a life of which nothing is told; a gap, which may be long, is one step.
func (l *Logger) firstUntold(life int, stored [][2]int) int {
	number := 0
	for {
		frame := [2]int{life, number}
		if g, lost := l.lostWith(frame); lost {
			number = g.To
			continue
		}
		if !slices.Contains(l.Held, frame) && !slices.Contains(stored, frame) {
			return number
		}
		number++
	}
}
