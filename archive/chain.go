package archive

import (
	"fluxmast/api"
	"fluxmast/num"
)

const (
	// maxChain is the number of bytes of a chain's text.
	maxChain = 400
	// maxWords is the number of words of a chain's text.
	maxWords = 32
	// maxStack is the number of numbers on a stack.
	maxStack = 8
)

// stack is the numbers on which the words of a chain act, and the inputs that they push.
type stack struct {
	held   [maxStack]num.Frac
	depth  int
	inputs []num.Frac
}

// push puts a number on top. That there is room for it was found when the chain was checked.
func (s *stack) push(x num.Frac) api.Errno {
	if len(x.Text()) > maxValue {
		return api.ErrFull
	}
	s.held[s.depth] = x
	s.depth++
	return api.OK
}

// pop takes the number on top.
func (s *stack) pop() num.Frac {
	s.depth--
	return s.held[s.depth]
}

// step is what a word does: it takes numbers off a stack, and leaves others in their place.
type step struct {
	takes, leaves int
	input         int // which input it pushes, from 1 on; 0 for none
	act           func(*stack) api.Errno
}

// Check returns the number of a chain's inputs.
func Check(text string) (int, api.Errno) {
	_, inputs, e := stepsOf(text)
	return inputs, e
}

// Evaluate returns the number that a chain makes of inputs.
func Evaluate(text string, inputs []num.Frac) (num.Frac, api.Errno) {
	steps, count, e := stepsOf(text)
	switch {
	case e != api.OK:
		return num.Frac{}, e
	case len(inputs) != count:
		return num.Frac{}, api.ErrSize
	}
	s := stack{inputs: inputs}
	for _, x := range steps {
		if e := x.act(&s); e != api.OK {
			return num.Frac{}, e
		}
	}
	return s.pop(), api.OK
}

// stepsOf returns what the words of a chain's text do, and the number of its inputs.
func stepsOf(text string) ([]step, int, api.Errno) {
	if len(text) > maxChain {
		return nil, 0, api.ErrSize
	}
	words, ok := wordsOf(text)
	if !ok || len(words) > maxWords {
		return nil, 0, api.ErrForm
	}
	var steps []step
	depth, inputs := 0, 0
	for _, word := range words {
		x, ok := stepOf(word)
		if !ok || x.takes > depth || depth-x.takes+x.leaves > maxStack {
			return nil, 0, api.ErrForm
		}
		steps = append(steps, x)
		depth += x.leaves - x.takes
		inputs = max(inputs, x.input)
	}
	if depth != 1 {
		return nil, 0, api.ErrForm
	}
	return steps, inputs, api.OK
}

// stepOf returns what a word does, and whether it is a word of a chain.
func stepOf(word string) (step, bool) {
	if makes := makesOfTwo(word); makes != nil {
		return pair(makes), true
	}
	switch word {
	case "neg":
		return single(num.Frac.Neg), true
	case "abs":
		return single(num.Frac.Abs), true
	case "dup":
		return step{takes: 1, leaves: 2, act: dup}, true
	case "swap":
		return step{takes: 2, leaves: 2, act: swap}, true
	}
	if len(word) == 2 && word[0] == '$' && '1' <= word[1] && word[1] <= '8' {
		return input(int(word[1] - '0')), true
	}
	x, ok := valueOf(word)
	return value(x), ok
}

// makesOfTwo returns what a word makes of two numbers, or nil.
func makesOfTwo(word string) func(x, y num.Frac) (num.Frac, api.Errno) {
	var makes func(x, y num.Frac) num.Frac
	switch word {
	case "+":
		makes = num.Frac.Add
	case "-":
		makes = num.Frac.Sub
	case "*":
		makes = num.Frac.Mul
	case "/":
		return num.Frac.Div
	case "min":
		makes = func(x, y num.Frac) num.Frac { return ordered(x, y)[0] }
	case "max":
		makes = func(x, y num.Frac) num.Frac { return ordered(x, y)[1] }
	default:
		return nil
	}
	return func(x, y num.Frac) (num.Frac, api.Errno) { return makes(x, y), api.OK }
}

// ordered returns the lesser and the greater one of two numbers.
func ordered(x, y num.Frac) [2]num.Frac {
	if x.Cmp(y) > 0 {
		return [2]num.Frac{y, x}
	}
	return [2]num.Frac{x, y}
}

func pair(makes func(x, y num.Frac) (num.Frac, api.Errno)) step {
	return step{takes: 2, leaves: 1, act: func(s *stack) api.Errno {
		y := s.pop()
		x := s.pop()
		z, e := makes(x, y)
		if e != api.OK {
			return e
		}
		return s.push(z)
	}}
}

func single(makes func(num.Frac) num.Frac) step {
	return step{takes: 1, leaves: 1, act: func(s *stack) api.Errno {
		x := s.pop()
		return s.push(makes(x))
	}}
}

func input(at int) step {
	return step{leaves: 1, input: at, act: func(s *stack) api.Errno { return s.push(s.inputs[at-1]) }}
}

func value(x num.Frac) step {
	return step{leaves: 1, act: func(s *stack) api.Errno { return s.push(x) }}
}

func dup(s *stack) api.Errno {
	return s.push(s.held[s.depth-1])
}

func swap(s *stack) api.Errno {
	upper := s.held[s.depth-2 : s.depth]
	upper[0], upper[1] = upper[1], upper[0]
	return api.OK
}
