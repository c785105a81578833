package frame

import (
	"slices"

	"fluxmast/api"
)

// Board tells watchers about gaps. It is used by one goroutine at a time.
type Board struct {
	watchers []watcher // in the order in which they came
}

// watcher is told of gaps through a channel of its own. The channel has room for what a watcher may leave unheard, and
// tells apart watchers who came one after the other with the same name.
type watcher struct {
	name string
	told chan api.Gap
}

// NewBoard returns a board without watchers.
func NewBoard() *Board {
	return &Board{}
}

// Watch adds a watcher.
func (b *Board) Watch(name string) api.Errno {
	switch {
	case b == nil:
		return api.ErrArg
	case !isName(name):
		return api.ErrForm
	case b.channel(name) != nil:
		return api.ErrTwice
	case len(b.watchers) >= api.MaxWatchers:
		return api.ErrFull
	}
	b.watchers = append(b.watchers, watcher{name, make(chan api.Gap, api.MaxHeld)})
	return api.OK
}

// Leave takes a watcher away.
func (b *Board) Leave(name string) api.Errno {
	told := b.channel(name)
	if told == nil {
		return api.ErrNone
	}
	b.drop(told)
	return api.OK
}

// Tell tells all watchers of a gap, and returns those that were dropped, since they had not heard too many.
func (b *Board) Tell(g api.Gap) []string {
	if b == nil {
		return nil
	}
	var dropped []string
	for _, w := range slices.Clone(b.watchers) {
		select {
		case w.told <- g:
		default: // there is no room, since too much was not heard
			b.drop(w.told)
			dropped = append(dropped, w.name)
		}
	}
	return dropped
}

// Hear returns what a watcher was told since it heard last.
func (b *Board) Hear(name string) ([]api.Gap, api.Errno) {
	told := b.channel(name)
	if told == nil {
		return nil, api.ErrNone
	}
	var heard []api.Gap
	for range len(told) {
		g := <-told
		heard = append(heard, g)
	}
	return heard, api.OK
}

// Watchers returns the names of all watchers.
func (b *Board) Watchers() []string {
	if b == nil {
		return nil
	}
	var names []string
	for _, w := range b.watchers {
		names = append(names, w.name)
	}
	return names
}

// channel returns the channel of the watcher with a name, or nil.
func (b *Board) channel(name string) chan api.Gap {
	if b == nil {
		return nil
	}
	for _, w := range b.watchers {
		if w.name == name {
			return w.told
		}
	}
	return nil
}

// drop takes the watcher with a channel away.
func (b *Board) drop(told chan api.Gap) {
	b.watchers = slices.DeleteFunc(b.watchers, func(w watcher) bool { return w.told == told })
}

func isName(s string) bool {
	if len(s) < 1 || len(s) > api.MaxName {
		return false
	}
	for i := range len(s) {
		if !isNameByte(s[i]) {
			return false
		}
	}
	return true
}

func isNameByte(x byte) bool {
	return 'a' <= x && x <= 'z' || '0' <= x && x <= '9' || x == '-'
}
