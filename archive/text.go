package archive

import (
	"slices"
	"strings"

	"fluxmast/api"
	"fluxmast/num"
)

const (
	// maxValue is the number of bytes of a value.
	maxValue = 200
	// maxCount is the number of digits of a count.
	maxCount = 8
)

// wordsOf returns the words of a line, and whether it is one.
func wordsOf(line string) ([]string, bool) {
	words := strings.Split(line, " ")
	if slices.ContainsFunc(words, func(s string) bool { return !isWord(s) }) {
		return nil, false
	}
	return words, true
}

func isWord(s string) bool {
	return s != "" && allBytes(s, func(x byte) bool { return 33 <= x && x <= 126 })
}

func isName(s string) bool {
	return s != "" && len(s) <= api.MaxName && allBytes(s, isNameByte)
}

func areNames(l []string) bool {
	return !slices.ContainsFunc(l, func(s string) bool { return !isName(s) })
}

func isNameByte(x byte) bool {
	return 'a' <= x && x <= 'z' || isDigit(x) || x == '-'
}

func isDigit(x byte) bool {
	return '0' <= x && x <= '9'
}

func isHexadecimal(s string) bool {
	return allBytes(s, func(x byte) bool { return isDigit(x) || 'a' <= x && x <= 'f' })
}

// isCount reports whether s is a count: a whole number above 0 with few digits.
func isCount(s string) bool {
	return s != "" && len(s) <= maxCount && s[0] != '0' && allBytes(s, isDigit)
}

func isValue(s string) bool {
	_, ok := valueOf(s)
	return ok
}

// valueOf returns the number of a value, and whether it is one.
func valueOf(s string) (num.Frac, bool) {
	if len(s) > maxValue {
		return num.Frac{}, false
	}
	x, e := num.Parse(s)
	return x, e == api.OK
}

func allBytes(s string, is func(byte) bool) bool {
	for i := range len(s) {
		if !is(s[i]) {
			return false
		}
	}
	return true
}
