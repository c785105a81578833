package archive_test

import (
	"math/big"
	"math/bits"
	"regexp"
	"slices"
	"strconv"
	"strings"

	"fluxmast/api"
	"fluxmast/archive"
)

// A model of chains, which calculates with package big, and has a list as its stack.

var valueForm = regexp.MustCompile(`^-?[0-9]+(/[0-9]+)?$`)

func slowValue(word string) (*big.Rat, bool) {
	if len(word) > 200 || !valueForm.MatchString(word) {
		return nil, false
	}
	x, ok := new(big.Rat).SetString(word)
	return x, ok && x.RatString() == word
}

var takes = map[string]int{"+": 2, "-": 2, "*": 2, "/": 2, "min": 2, "max": 2, "neg": 1, "abs": 1, "dup": 1, "swap": 2}
var leaves = map[string]int{"+": 1, "-": 1, "*": 1, "/": 1, "min": 1, "max": 1, "neg": 1, "abs": 1, "dup": 2, "swap": 2}

func slowCheck(text string) (int, api.Errno) {
	if len(text) > 400 {
		return 0, api.ErrSize
	}
	words := strings.Split(text, " ")
	depth, inputs := 0, 0
	for _, word := range words {
		_, isValue := slowValue(word)
		at := slices.Index([]string{"", "$1", "$2", "$3", "$4", "$5", "$6", "$7", "$8"}, word)
		switch {
		case takes[word] > 0 && depth >= takes[word]:
			depth += leaves[word] - takes[word]
		case isValue || at > 0:
			depth++
			inputs = max(inputs, at)
		default:
			return 0, api.ErrForm
		}
		if depth > 8 {
			return 0, api.ErrForm
		}
	}
	if depth != 1 || len(words) > 32 {
		return 0, api.ErrForm
	}
	return inputs, api.OK
}

// slowWord is the stack behind a word.
func slowWord(l []*big.Rat, word string, inputs []*big.Rat) ([]*big.Rat, api.Errno) {
	if x, ok := slowValue(word); ok {
		return append(l, x), api.OK
	}
	if word[0] == '$' {
		return append(l, inputs[word[1]-'1']), api.OK
	}
	n := len(l) - takes[word]
	x, y, below := l[n], l[len(l)-1], slices.Clone(l[:n])
	z := new(big.Rat)
	switch word {
	case "+":
		return append(below, z.Add(x, y)), api.OK
	case "-":
		return append(below, z.Sub(x, y)), api.OK
	case "*":
		return append(below, z.Mul(x, y)), api.OK
	case "/":
		if y.Sign() == 0 {
			return nil, api.ErrZero
		}
		return append(below, z.Quo(x, y)), api.OK
	case "min":
		return append(below, slices.MinFunc([]*big.Rat{x, y}, (*big.Rat).Cmp)), api.OK
	case "max":
		return append(below, slices.MaxFunc([]*big.Rat{x, y}, (*big.Rat).Cmp)), api.OK
	case "neg":
		return append(below, z.Neg(x)), api.OK
	case "abs":
		return append(below, z.Abs(x)), api.OK
	case "dup":
		return append(below, x, x), api.OK
	}
	return append(below, y, x), api.OK
}

func slowEvaluate(text string, inputs []*big.Rat) (*big.Rat, api.Errno) {
	count, e := slowCheck(text)
	if e != api.OK {
		return nil, e
	}
	if len(inputs) != count {
		return nil, api.ErrSize
	}
	var l []*big.Rat
	for _, word := range strings.Split(text, " ") {
		if l, e = slowWord(l, word, inputs); e != api.OK {
			return nil, e
		}
		if slices.ContainsFunc(l, func(x *big.Rat) bool { return len(x.RatString()) > 200 }) {
			return nil, api.ErrFull
		}
	}
	return l[0], api.OK
}

// slowSeal multiplies with package bits.
func slowSeal(start uint64, s string) uint64 {
	for _, x := range []byte(s) {
		_, low := bits.Mul64(start+uint64(x)+1, 6364136223846793005)
		start = low ^ low/(1<<29)
	}
	return start
}

func slowDigest(h uint64) string {
	var digits []byte
	for place := 60; place >= 0; place -= 4 {
		digits = append(digits, "0123456789abcdef"[h>>place&15])
	}
	return string(digits)
}

// history is a model of an archive: the commands that were performed, in order. All else is found in them by counting,
// and by calculating anew.
type history []string

var nameForm = regexp.MustCompile(`^[a-z0-9-]{1,24}$`)
var sourceForm = regexp.MustCompile(`^(data|cal) [a-z0-9-]{1,24} [a-z0-9-]{1,24} [!-~]+$`)
var commandForm = regexp.MustCompile(`^(hand [a-z0-9-]{1,24} (tower|lab|analyst|office)|chain [a-z0-9-]{1,24} [a-z0-9-]{1,24}( [!-~]+)+|number( [a-z0-9-]{1,24}){3,}|embargo( [a-z0-9-]{1,24}){3,}|release( [a-z0-9-]{1,24}){2})$`)

func words(line string) []string {
	return strings.Split(line, " ")
}

// of is the commands of some kinds on one name (on all, for an empty one), with their places.
func (h history) of(name string, kinds ...string) (found [][]string, places []int) {
	for i, line := range h {
		if l := words(line); slices.Contains(kinds, l[0]) && (name == "" || l[1] == name) {
			found, places = append(found, l), append(places, i)
		}
	}
	return found, places
}

// names is the names that came with some kinds of commands, in order.
func (h history) names(kinds ...string) []string {
	var names []string
	commands, _ := h.of("", kinds...)
	for _, l := range commands {
		if !slices.Contains(names, l[1]) {
			names = append(names, l[1])
		}
	}
	return names
}

func (h history) items() []string {
	return slices.Concat(h.names("data", "cal"), h.names("chain"), h.names("number"))
}

// count is how many commands of some kinds there were on a name.
func (h history) count(name string, kinds ...string) int {
	found, _ := h.of(name, kinds...)
	return len(found)
}

func (h history) last(name string, kinds ...string) []string {
	found, _ := h.of(name, kinds...)
	return found[len(found)-1]
}

func (h history) isHand(name, role string) bool {
	return slices.Contains(h, "hand "+name+" "+role)
}

func (h history) text(chain string) string {
	return strings.Join(h.last(chain, "chain")[3:], " ")
}

// under is all on which a number rests.
func (h history) under(number string) map[string]bool {
	found := map[string]bool{}
	var visit func(name string)
	visit = func(name string) {
		if h.count(name, "number") == 0 {
			return
		}
		for _, x := range h.last(name, "number")[3:] {
			if !found[x] {
				found[x] = true
				visit(x)
			}
		}
	}
	visit(number)
	return found
}

func (h history) rests(item string) []string {
	var l []string
	for _, n := range h.names("number") {
		if h.under(n)[item] {
			l = append(l, n)
		}
	}
	return l
}

// version is that of any item: a number has one more for each command behind it on what it rests on.
func (h history) version(item string) int {
	if h.count(item, "number") == 0 {
		return h.count(item, "data", "cal", "chain")
	}
	_, places := h.of(item, "number")
	behind, under, version := h[places[0]:], h.under(item), 1
	commands, _ := behind.of("", "data", "cal", "chain")
	for _, l := range commands {
		if under[l[1]] {
			version++
		}
	}
	return version
}

func (h history) trace(number string) []string {
	var l []string
	under := h.under(number)
	for _, x := range h.items() {
		if under[x] {
			l = append(l, x+"@"+strconv.Itoa(h.version(x)))
		}
	}
	return l
}

// value is that of a source or a number, from the sources on.
func (h history) value(name string, known map[string]*big.Rat) (*big.Rat, api.Errno) {
	if known[name] != nil {
		return known[name], api.OK
	}
	if h.count(name, "number") == 0 {
		x, _ := slowValue(h.last(name, "data", "cal")[3])
		known[name] = x
		return x, api.OK
	}
	l := h.last(name, "number")
	var inputs []*big.Rat
	for _, input := range l[4:] {
		x, e := h.value(input, known)
		if e != api.OK {
			return nil, e
		}
		inputs = append(inputs, x)
	}
	x, e := slowEvaluate(h.text(l[3]), inputs)
	known[name] = x
	return x, e
}

// status is the State of a number and its Readers.
func (h history) status(number string) (int, []string) {
	switch {
	case h.count(number, "release") > 0:
		return 2, nil
	case h.count(number, "embargo") > 0:
		return 1, h.last(number, "embargo")[3:]
	}
	return 0, nil
}

func (h history) mayHave(hand, number string) bool {
	state, readers := h.status(number)
	return state == 2 || h.last(number, "number")[2] == hand || slices.Contains(readers, hand)
}

// code is the error of a command.
func (h history) code(line string) api.Errno {
	l := words(line)
	switch {
	case len(line) > 500:
		return api.ErrSize
	case sourceForm.MatchString(line):
		if _, ok := slowValue(l[3]); !ok {
			return api.ErrForm
		}
		if l[0] == "data" {
			return h.itemCode(line, "tower", "cal", "chain", "number")
		}
		return h.itemCode(line, "lab", "data", "chain", "number")
	case !commandForm.MatchString(line):
		return api.ErrForm
	case l[0] == "hand" && h.count(l[1], "hand") > 0:
		return api.ErrTwice
	case l[0] == "hand" && len(h.names("hand")) == 8:
		return api.ErrFull
	case l[0] == "hand":
		return api.OK
	case l[0] == "chain":
		return h.itemCode(line, "analyst", "data", "cal", "number")
	case l[0] == "number":
		return h.numberCode(line)
	}
	return h.officeCode(l)
}

// itemCode is the error of a command that brings a version, by the role, and by which commands the name is another's.
func (h history) itemCode(line, role string, others ...string) api.Errno {
	l := words(line)
	if !h.isHand(l[2], role) {
		return api.ErrHand
	}
	inputs := 0
	if l[0] == "chain" {
		n, e := slowCheck(strings.Join(l[3:], " "))
		if e != api.OK {
			return e
		}
		inputs = n
	}
	if h.count(l[1], others...) > 0 {
		return api.ErrTwice
	}
	if h.count(l[1], l[0]) == 0 {
		if len(h.items()) == 64 {
			return api.ErrFull
		}
		return api.OK
	}
	if l[0] == "chain" {
		if n, _ := slowCheck(h.text(l[1])); n != inputs {
			return api.ErrSize
		}
	}
	behind := append(slices.Clone(h), line)
	known := map[string]*big.Rat{}
	for _, n := range h.rests(l[1]) {
		if _, e := behind.value(n, known); e != api.OK {
			return e
		}
	}
	return api.OK
}

func (h history) numberCode(line string) api.Errno {
	l := words(line)
	switch {
	case !h.isHand(l[2], "analyst"):
		return api.ErrHand
	case slices.Contains(h.items(), l[1]):
		return api.ErrTwice
	case h.count(l[3], "chain") == 0:
		return api.ErrNone
	}
	for _, x := range l[4:] {
		if h.count(x, "data", "cal", "number") == 0 {
			return api.ErrNone
		}
		if h.count(x, "number") > 0 && !h.mayHave(l[2], x) {
			return api.ErrSecret
		}
	}
	if _, e := append(slices.Clone(h), line).value(l[1], map[string]*big.Rat{}); e != api.OK {
		return e
	}
	if len(h.items()) == 64 {
		return api.ErrFull
	}
	return api.OK
}

func (h history) officeCode(l []string) api.Errno {
	switch {
	case !h.isHand(l[2], "office"):
		return api.ErrHand
	case h.count(l[1], "number") == 0:
		return api.ErrNone
	case h.count(l[1], "release") > 0:
		return api.ErrState
	}
	for i, reader := range l[3:] {
		if h.count(reader, "hand") == 0 {
			return api.ErrHand
		}
		if slices.Contains(l[3:3+i], reader) {
			return api.ErrTwice
		}
	}
	return api.OK
}

// tells is all that the archive has to tell.
func (h history) tells() told {
	var x told
	commands, _ := h.of("", "hand")
	for _, l := range commands {
		role := slices.Index([]string{"tower", "lab", "analyst", "office"}, l[2])
		x.hands = append(x.hands, archive.Hand{Name: l[1], Role: role})
	}
	for _, name := range h.names("data", "cal") {
		l := h.last(name, "data", "cal")
		kind := slices.Index([]string{"data", "cal"}, l[0])
		x.sources = append(x.sources, archive.Source{Name: name, Kind: kind, Version: h.version(name), Value: l[3], By: l[2]})
	}
	for _, name := range h.names("chain") {
		x.chains = append(x.chains, archive.Chain{Name: name, Version: h.version(name), Text: h.text(name), By: h.last(name, "chain")[2]})
	}
	known := map[string]*big.Rat{}
	for _, name := range h.names("number") {
		l := h.last(name, "number")
		value, _ := h.value(name, known)
		state, readers := h.status(name)
		x.numbers = append(x.numbers, archive.Number{Name: name, Chain: l[3], Inputs: l[4:], Version: h.version(name), Value: value.RatString(), State: state, By: l[2], Readers: readers})
	}
	x.ledger = h.ledger()
	return x
}

func (h history) ledger() string {
	s, digest := "", uint64(0)
	for i, line := range h {
		sealed := strconv.Itoa(i+1) + " " + strconv.Itoa(len(line)) + " " + line
		digest = slowSeal(digest, sealed)
		s += sealed + " " + slowDigest(digest) + "\n"
	}
	return s
}

func (h history) papers(number string) string {
	value, _ := h.value(number, map[string]*big.Rat{})
	s := "number " + number + " " + strconv.Itoa(h.version(number)) + " " + value.RatString() + "\n"
	s += "rests " + strings.Join(h.trace(number), " ") + "\n"
	under := h.under(number)
	for i, line := range h {
		if l := words(line); l[0] != "hand" && (l[1] == number || under[l[1]]) {
			s += strconv.Itoa(i+1) + " " + line + "\n"
		}
	}
	return s + "digest " + slowDigest(slowSeal(2, s)) + "\n"
}

// answer is the answer to a line, and its error.
func (h history) answer(line string) (string, api.Errno) {
	l := words(line)
	if slices.ContainsFunc(l, func(s string) bool { return !nameForm.MatchString(s) }) {
		l = []string{""}
	}
	isItem := func(kinds ...string) bool { return h.count(l[len(l)-1], kinds...) > 0 }
	switch {
	case line == "items":
		return strings.Join(h.items(), " "), api.OK
	case len(l) == 2 && l[0] == "rests" && isItem("data", "cal", "chain", "number"):
		return strings.Join(h.rests(l[1]), " "), api.OK
	case len(l) == 2 && l[0] == "trace" && isItem("number"):
		return strings.Join(h.trace(l[1]), " "), api.OK
	case len(l) == 2 && (l[0] == "rests" || l[0] == "trace"), len(l) == 3 && l[0] == "ask" && !isItem("number"):
		return "error 5", api.ErrNone
	case len(l) == 3 && l[0] == "ask" && !h.mayHave(l[1], l[2]):
		return "error 103", api.ErrSecret
	case len(l) == 3 && l[0] == "ask":
		value, _ := h.value(l[2], map[string]*big.Rat{})
		return value.RatString() + " " + strconv.Itoa(h.version(l[2])), api.OK
	}
	if e := h.code(line); e != api.OK {
		return "error " + strconv.Itoa(int(e)), e
	}
	return "ok", api.OK
}
