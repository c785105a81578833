package archive

import (
	"slices"

	"fluxmast/api"
	"fluxmast/num"
)

// state is the hands and the items, each in the order in which they came.
type state struct {
	hands   []waiting
	sources []Source
	chains  []Chain
	numbers []Number
}

// waiting is a hand with the channel on which it waits for numbers. No two hands have the same one, and a stranger has
// none, so that channels are compared to find who may have a number. Answers are results of calls: nothing is ever sent.
type waiting struct {
	Hand
	on chan Number
}

// draft returns a copy, which can be changed without the state.
func (s *state) draft() state {
	return state{slices.Clone(s.hands), slices.Clone(s.sources), slices.Clone(s.chains), slices.Clone(s.numbers)}
}

// items returns the names of all items.
func (s *state) items() []string {
	var names []string
	for _, x := range s.sources {
		names = append(names, x.Name)
	}
	for _, x := range s.chains {
		names = append(names, x.Name)
	}
	for _, x := range s.numbers {
		names = append(names, x.Name)
	}
	return names
}

// has reports whether there is an item with a name.
func (s *state) has(item string) bool {
	return slices.Contains(s.items(), item)
}

// hand returns the hand with a name, or nil.
func (s *state) hand(name string) *waiting {
	return find(s.hands, func(x waiting) bool { return x.Name == name })
}

// source returns the source with a name, or nil.
func (s *state) source(name string) *Source {
	return find(s.sources, func(x Source) bool { return x.Name == name })
}

// chain returns the chain with a name, or nil.
func (s *state) chain(name string) *Chain {
	return find(s.chains, func(x Chain) bool { return x.Name == name })
}

// number returns the number with a name, or nil.
func (s *state) number(name string) *Number {
	return find(s.numbers, func(x Number) bool { return x.Name == name })
}

// find returns the first element that is what is looked for, where it is in l, or nil.
func find[T any](l []T, is func(T) bool) *T {
	at := slices.IndexFunc(l, is)
	if at < 0 {
		return nil
	}
	return &l[at]
}

// channel returns the channel on which a hand waits; one who is not known waits on none.
func (s *state) channel(name string) chan Number {
	if x := s.hand(name); x != nil {
		return x.on
	}
	return nil
}

// mayHave reports whether a hand may have a number. (Only a number that is embargoed has Readers.)
func (s *state) mayHave(hand string, n *Number) bool {
	on := s.channel(hand)
	waits := func(name string) bool { return s.channel(name) == on }
	return n.State == Released || waits(n.By) || slices.ContainsFunc(n.Readers, waits)
}

// resting returns the names of the numbers that rest on an item, in order. What a number rests on came ahead of it, so
// that one walk over the numbers finds all.
func (s *state) resting(item string) []string {
	var names []string
	reached := map[string]bool{item: true}
	for _, n := range s.numbers {
		if reached[n.Chain] || slices.ContainsFunc(n.Inputs, func(x string) bool { return reached[x] }) {
			reached[n.Name] = true
			names = append(names, n.Name)
		}
	}
	return names
}

// recompute gives new versions to the numbers that rest on an item, or panics with the first error.
func (s *state) recompute(item string) {
	for _, name := range s.resting(item) {
		n := s.number(name)
		n.Value = s.evaluate(n.Chain, n.Inputs)
		n.Version++
	}
}

// evaluate returns the text of what a chain makes of items, or panics with the error of Evaluate.
func (s *state) evaluate(chain string, inputs []string) string {
	values := make([]num.Frac, len(inputs))
	for i, name := range inputs {
		values[i] = s.value(name)
	}
	x, e := Evaluate(s.chain(chain).Text, values)
	demand(e == api.OK, e)
	return x.Text()
}

// value returns the value of a source or of a number.
func (s *state) value(name string) num.Frac {
	var text string
	if x := s.source(name); x != nil {
		text = x.Value
	} else if n := s.number(name); n != nil {
		text = n.Value
	}
	x, _ := valueOf(text)
	return x
}
