package archive

import (
	"iter"
	"slices"
	"strconv"
	"strings"

	"fluxmast/api"
)

// digestDigits is the number of hexadecimal digits of a digest.
const digestDigits = 16

// Seal returns the digest of bytes.
func Seal(start uint64, s string) uint64 {
	h := start
	for i := range len(s) {
		h = (h + uint64(s[i]) + 1) * 6364136223846793005
		h ^= h >> 29
	}
	return h
}

// digestText returns the hexadecimal digits of a digest.
func digestText(h uint64) string {
	digits := strconv.FormatUint(h, 16)
	return strings.Repeat("0", digestDigits-len(digits)) + digits
}

// Ledger returns the ledger.
func (a *Archive) Ledger() string {
	if a == nil {
		return ""
	}
	var s strings.Builder
	for line := range ledgerLines(a.commands) {
		s.WriteString(line)
	}
	return s.String()
}

// Resume returns the archive of a ledger, and how many bytes were read.
func Resume(ledger string) (*Archive, int) {
	a, read, digest := New(), 0, uint64(0)
	for line := range strings.Lines(ledger) {
		command := commandOf(line)
		right, next := ledgerLine(len(a.commands)+1, command, digest)
		if line != right || a.Do(command) != api.OK {
			break
		}
		read += len(line)
		digest = next
	}
	return a, read
}

// Same reports whether two archives are equal. They are, if they have performed the same commands: nothing else is in a
// ledger, and nothing else changes an archive.
func Same(a, b *Archive) bool {
	if a == nil || b == nil {
		return a == b
	}
	return slices.Equal(a.commands, b.commands)
}

// ledgerLines walks the lines of the ledger of commands.
func ledgerLines(commands []string) iter.Seq[string] {
	return func(yield func(string) bool) {
		var digest uint64
		for i, command := range commands {
			line, next := ledgerLine(i+1, command, digest)
			if !yield(line) {
				return
			}
			digest = next
		}
	}
}

// ledgerLine returns a line of the ledger and its digest, by its number, its command, and the digest of the line before.
func ledgerLine(number int, command string, before uint64) (string, uint64) {
	sealed := strconv.Itoa(number) + " " + strconv.Itoa(len(command)) + " " + command
	digest := Seal(before, sealed)
	return sealed + " " + digestText(digest) + "\n", digest
}

// commandOf returns what is the command of a line of a ledger, if it is one: what is behind two words, and ahead of the
// digest.
func commandOf(line string) string {
	_, behind, _ := strings.Cut(line, " ")
	_, behind, _ = strings.Cut(behind, " ")
	end := len(behind) - len(" ") - digestDigits - len("\n")
	if end < 0 {
		return ""
	}
	return behind[:end]
}
