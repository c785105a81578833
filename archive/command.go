package archive

import (
	"slices"
	"strings"

	"fluxmast/api"
)

// maxLine is the number of bytes of a command.
const maxLine = 500

// Do performs a command.
func (a *Archive) Do(line string) (e api.Errno) {
	switch {
	case a == nil:
		return api.ErrArg
	case len(line) > maxLine:
		return api.ErrSize
	}
	defer func() {
		switch failed := recover().(type) {
		case nil:
		case api.Errno:
			e = failed
		default: // none is foreseen; nothing has changed, so that it must not pass as OK
			e = api.ErrArg
		}
	}()
	// A command changes a draft, so that one that panics half way has changed nothing.
	draft := a.now.draft()
	draft.perform(line)
	a.now = draft
	a.commands = append(a.commands, line)
	return api.OK
}

// demand panics with an error, if what is demanded does not hold.
func demand(holds bool, e api.Errno) {
	if !holds {
		panic(e)
	}
}

// commands returns what performs each command, given the words behind its first one. All of them panic with the first
// error, in the order of the document.
func commands() map[string]func(*state, []string) {
	return map[string]func(*state, []string){
		"hand":    (*state).addHand,
		"data":    (*state).addData,
		"cal":     (*state).addCal,
		"chain":   (*state).addChain,
		"number":  (*state).addNumber,
		"embargo": (*state).embargo,
		"release": (*state).release,
	}
}

// perform performs a command.
func (s *state) perform(line string) {
	words, ok := wordsOf(line)
	demand(ok, api.ErrForm)
	command, ok := commands()[words[0]]
	demand(ok, api.ErrForm)
	command(s, words[1:])
}

// addHand performs `hand HAND ROLE`.
func (s *state) addHand(words []string) {
	demand(len(words) == 2 && isName(words[0]), api.ErrForm)
	name, role := words[0], roleOf(words[1])
	demand(role >= 0, api.ErrForm)
	demand(s.hand(name) == nil, api.ErrTwice)
	demand(len(s.hands) < api.MaxHands, api.ErrFull)
	s.hands = append(s.hands, waiting{Hand{name, role}, make(chan Number)})
}

// roleOf returns the role with a word, or -1.
func roleOf(word string) int {
	return slices.Index([]string{Tower: "tower", Lab: "lab", Analyst: "analyst", Office: "office"}, word)
}

// addData performs `data SOURCE HAND VALUE`.
func (s *state) addData(words []string) {
	s.addSource(Data, Tower, words)
}

// addCal performs `cal SOURCE HAND VALUE`.
func (s *state) addCal(words []string) {
	s.addSource(Cal, Lab, words)
}

// addSource brings a version of a source of a kind, by a hand of a role.
func (s *state) addSource(kind, role int, words []string) {
	demand(len(words) == 3 && areNames(words[:2]) && isValue(words[2]), api.ErrForm)
	name, by, value := words[0], words[1], words[2]
	s.demandHand(by, role)
	x := s.source(name)
	demand(x != nil && x.Kind == kind || !s.has(name), api.ErrTwice)
	if x == nil {
		s.demandRoom()
		s.sources = append(s.sources, Source{Name: name, Kind: kind})
		x = s.source(name)
	}
	x.Version++
	x.Value, x.By = value, by
	s.recompute(name)
}

// addChain performs `chain CHAIN HAND WORD ..`.
func (s *state) addChain(words []string) {
	demand(len(words) >= 3 && areNames(words[:2]), api.ErrForm)
	name, by, text := words[0], words[1], strings.Join(words[2:], " ")
	s.demandHand(by, Analyst)
	inputs, e := Check(text)
	demand(e == api.OK, e)
	x := s.chain(name)
	demand(x != nil || !s.has(name), api.ErrTwice)
	if x == nil {
		s.demandRoom()
		s.chains = append(s.chains, Chain{Name: name})
		x = s.chain(name)
	} else {
		before, _ := Check(x.Text)
		demand(inputs == before, api.ErrSize)
	}
	x.Version++
	x.Text, x.By = text, by
	s.recompute(name)
}

// addNumber performs `number NUMBER HAND CHAIN ITEM ..`.
func (s *state) addNumber(words []string) {
	demand(len(words) >= 3 && areNames(words), api.ErrForm)
	name, by, chain, inputs := words[0], words[1], words[2], words[3:]
	s.demandHand(by, Analyst)
	demand(!s.has(name), api.ErrTwice)
	demand(s.chain(chain) != nil, api.ErrNone)
	for _, input := range inputs {
		n := s.number(input)
		demand(n != nil || s.source(input) != nil, api.ErrNone)
		demand(n == nil || s.mayHave(by, n), api.ErrSecret)
	}
	value := s.evaluate(chain, inputs)
	s.demandRoom()
	s.numbers = append(s.numbers, Number{Name: name, Chain: chain, Inputs: inputs, Version: 1, Value: value, State: Kept, By: by})
}

// embargo performs `embargo NUMBER HAND READER ..`.
func (s *state) embargo(words []string) {
	demand(len(words) >= 3 && areNames(words), api.ErrForm)
	n, readers := s.unreleased(words[0], words[1]), words[2:]
	for i, reader := range readers {
		demand(s.hand(reader) != nil, api.ErrHand)
		demand(!slices.Contains(readers[:i], reader), api.ErrTwice)
	}
	n.State, n.Readers = Embargoed, readers
}

// release performs `release NUMBER HAND`.
func (s *state) release(words []string) {
	demand(len(words) == 2 && areNames(words), api.ErrForm)
	n := s.unreleased(words[0], words[1])
	n.State, n.Readers = Released, nil
}

// unreleased returns the number with a name, of which a hand may decide who has it.
func (s *state) unreleased(number, by string) *Number {
	s.demandHand(by, Office)
	n := s.number(number)
	demand(n != nil, api.ErrNone)
	demand(n.State != Released, api.ErrState)
	return n
}

// demandHand demands that a hand is known, and has a role.
func (s *state) demandHand(name string, role int) {
	x := s.hand(name)
	demand(x != nil && x.Role == role, api.ErrHand)
}

// demandRoom demands that there is room for one more item.
func (s *state) demandRoom() {
	demand(len(s.items()) < api.MaxItems, api.ErrFull)
}
