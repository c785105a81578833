package frame

import (
	"iter"
	"slices"

	"fluxmast/api"
)

// Life says how many frames a logger has sealed in a life.
type Life struct{ Station, Logger, Life, Count int }

const maxCount = maxNumber + 1 // frames of a life

// CheckRecord returns the error of a record.
func CheckRecord(l []Block) api.Errno {
	if e := checkBlocks(l); e != api.OK {
		return e
	}
	for i := 1; i < len(l); i++ {
		if compareBlocks(l[i-1], l[i]) >= 0 {
			return api.ErrOrder
		}
	}
	return api.OK
}

func checkBlocks(l []Block) api.Errno {
	if len(l) > api.MaxFrames {
		return api.ErrSize
	}
	for _, b := range l {
		if _, e := Open(b); e != api.OK {
			return e
		}
	}
	return api.OK
}

// Record returns the record of blocks in any order.
func Record(l []Block) ([]Block, api.Errno) {
	if e := checkBlocks(l); e != api.OK {
		return nil, e
	}
	return ascending(slices.Clone(l)), api.OK
}

// ascending sorts l, in its memory, and returns it with each block once.
func ascending(l []Block) []Block {
	slices.SortFunc(l, compareBlocks)
	return slices.Compact(l)
}

// Join returns the record that has all blocks of two.
func Join(a, b []Block) ([]Block, api.Errno) {
	all, e := union(a, b)
	switch {
	case e != api.OK:
		return nil, e
	case len(all) > api.MaxFrames:
		return nil, api.ErrFull
	}
	return all, api.OK
}

// Common returns how many blocks two records have both.
func Common(a, b []Block) (int, api.Errno) {
	all, e := union(a, b)
	if e != api.OK {
		return 0, e
	}
	return len(a) + len(b) - len(all), api.OK
}

// union returns all blocks of two records, ascending and each once, however many they are.
func union(a, b []Block) ([]Block, api.Errno) {
	if e := CheckRecord(a); e != api.OK {
		return nil, e
	}
	if e := CheckRecord(b); e != api.OK {
		return nil, e
	}
	return ascending(slices.Concat(a, b)), api.OK
}

// Clashes returns the keys that several blocks have.
func Clashes(l []Block) ([]Key, api.Errno) {
	if e := CheckRecord(l); e != api.OK {
		return nil, e
	}
	var keys []Key
	for i := 1; i < len(l); i++ {
		if key := l[i].key(); key == l[i-1].key() {
			keys = append(keys, key)
		}
	}
	return slices.Compact(keys), api.OK
}

// Missing returns the numbers that no block of a record has.
func Missing(l []Block, lives []Life) ([]api.Gap, api.Errno) {
	if e := CheckRecord(l); e != api.OK {
		return nil, e
	}
	if e := checkLives(lives); e != api.OK {
		return nil, e
	}
	var gaps []api.Gap
	for i, life := range lives {
		next := 0
		for number := range life.numbers(l) {
			if number >= life.Count {
				return nil, api.ErrClash
			}
			gaps = appendGap(gaps, api.Gap{Life: i, From: next, To: number})
			next = number + 1
		}
		gaps = appendGap(gaps, api.Gap{Life: i, From: next, To: life.Count})
	}
	return gaps, api.OK
}

func checkLives(lives []Life) api.Errno {
	if len(lives) > api.MaxLives {
		return api.ErrSize
	}
	for i, life := range lives {
		switch {
		case !life.start().valid() || !upTo(life.Count, maxCount):
			return api.ErrArg
		case i > 0 && compareKeys(lives[i-1].start(), life.start()) >= 0:
			return api.ErrOrder
		}
	}
	return api.OK
}

// start returns the key of the frame 0 of the life.
func (life Life) start() Key {
	return Key{Station: life.Station, Logger: life.Logger, Life: life.Life}
}

// numbers walks the numbers of the frames of the life that a record has: ascending, one that clashes as often as there
// are blocks with it.
func (life Life) numbers(l []Block) iter.Seq[int] {
	return func(yield func(int) bool) {
		for _, b := range l {
			key := b.key()
			number := key.Number
			key.Number = 0
			if key == life.start() && !yield(number) {
				return
			}
		}
	}
}

// appendGap adds a gap to gaps, if something is missing in it.
func appendGap(gaps []api.Gap, g api.Gap) []api.Gap {
	if g.From >= g.To {
		return gaps
	}
	return append(gaps, g)
}
