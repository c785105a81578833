package num

import (
	"strconv"
	"strings"

	"fluxmast/api"
)

// A chunk is as many decimal digits as a limb takes.
const (
	chunkDigits = 19
	chunk       = 10_000_000_000_000_000_000
)

// Parse returns the fraction with a text.
func Parse(s string) (Frac, api.Errno) {
	if len(s) > api.MaxDigits {
		return Frac{}, api.ErrSize
	}
	unsigned, negative := strings.CutPrefix(s, "-")
	upper, lower, divided := strings.Cut(unsigned, "/")
	if !divided {
		lower = "1"
	}
	top, ok := parseDigits(upper)
	bottom, ok2 := parseDigits(lower)
	if !ok || !ok2 || len(bottom) == 0 {
		return Frac{}, api.ErrForm
	}
	x := ratio(negative, top, bottom)
	if x.Text() != s { // no digits, leading zeros, -0, or not in lowest terms
		return Frac{}, api.ErrForm
	}
	return x, api.OK
}

// parseDigits returns the number with the decimal digits s (0 for none), and whether they are digits.
func parseDigits(s string) (limbs, bool) {
	var x limbs
	for len(s) > 0 {
		n := (len(s)-1)%chunkDigits + 1
		digits, err := strconv.ParseUint(s[:n], 10, 64)
		if err != nil {
			return nil, false
		}
		x = x.mul(word(chunk)).add(word(digits))
		s = s[n:]
	}
	return x, true
}

// Text returns the text.
func (x Frac) Text() string {
	s := x.top.text()
	if x.negative {
		s = "-" + s
	}
	if x.bottom != nil {
		s += "/" + x.bottom.text()
	}
	return s
}

func (x limbs) text() string {
	if len(x) == 0 {
		return "0"
	}
	var chunks []string
	for len(x) > 0 {
		var digits uint64
		x, digits = x.divideWord(chunk)
		chunks = append(chunks, strconv.FormatUint(digits, 10))
	}
	last := len(chunks) - 1
	var s strings.Builder
	s.WriteString(chunks[last])
	for i := last - 1; i >= 0; i-- {
		s.WriteString(strings.Repeat("0", chunkDigits-len(chunks[i])))
		s.WriteString(chunks[i])
	}
	return s.String()
}

// Text returns the text.
func (x Band) Text() string {
	return "[" + x.lo.Text() + "," + x.hi.Text() + "]"
}
