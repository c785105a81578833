package archive

import (
	"slices"
	"strconv"
	"strings"

	"fluxmast/api"
)

// paperStart is where the digest of papers starts.
const paperStart = 2

// Papers returns the papers of a number.
func (a *Archive) Papers(number string) (string, api.Errno) {
	trace, e := a.Trace(number)
	if e != api.OK {
		return "", e
	}
	n := a.now.number(number)
	if n.State != Released {
		return "", api.ErrState
	}
	var s strings.Builder
	s.WriteString("number " + n.Name + " " + strconv.Itoa(n.Version) + " " + n.Value + "\n")
	s.WriteString("rests " + strings.Join(trace, " ") + "\n")
	items := []string{number}
	for _, word := range trace {
		name, _, _ := strings.Cut(word, "@")
		items = append(items, name)
	}
	for i, command := range a.commands {
		words := strings.Split(command, " ")
		if words[0] != "hand" && slices.Contains(items, words[1]) {
			s.WriteString(strconv.Itoa(i+1) + " " + command + "\n")
		}
	}
	above := s.String()
	return above + "digest " + digestText(Seal(paperStart, above)) + "\n", api.OK
}

// CheckPapers returns what papers say.
func CheckPapers(text string) (Paper, api.Errno) {
	lines := strings.Split(text, "\n")
	end := len(lines) - 2 // the index of the digest; nothing is behind the last line feed
	if end < 3 || lines[end+1] != "" {
		return Paper{}, api.ErrForm
	}
	p := Paper{Lines: slices.Clone(lines[2:end])}
	digest, ok := strings.CutPrefix(lines[end], "digest ")
	switch {
	case !p.readNumber(lines[0]) || !p.readRests(lines[1]) || !areEntries(p.Lines):
		return Paper{}, api.ErrForm
	case !ok || len(digest) != digestDigits || !isHexadecimal(digest):
		return Paper{}, api.ErrForm
	}
	above := strings.TrimSuffix(text, lines[end]+"\n")
	if digest != digestText(Seal(paperStart, above)) {
		return Paper{}, api.ErrSum
	}
	return p, api.OK
}

// readNumber reads the line of the number, and reports whether it is one.
func (p *Paper) readNumber(line string) bool {
	words := strings.Split(line, " ")
	if len(words) != 4 || words[0] != "number" || !isName(words[1]) || !isCount(words[2]) || !isValue(words[3]) {
		return false
	}
	p.Name, p.Value = words[1], words[3]
	p.Version, _ = strconv.Atoi(words[2])
	return true
}

// readRests reads the line of what the number rests on, and reports whether it is one.
func (p *Paper) readRests(line string) bool {
	words := strings.Split(line, " ")
	if len(words) < 2 || words[0] != "rests" {
		return false
	}
	for _, word := range words[1:] {
		name, version, _ := strings.Cut(word, "@")
		if !isName(name) || !isCount(version) {
			return false
		}
	}
	p.Rests = words[1:]
	return true
}

// areEntries reports whether each line has a count and a command, and the counts rise.
func areEntries(lines []string) bool {
	last := 0
	for _, line := range lines {
		count, command, _ := strings.Cut(line, " ")
		_, ok := wordsOf(command)
		if !ok || !isCount(count) || len(command) > maxLine {
			return false
		}
		at, _ := strconv.Atoi(count)
		if at <= last {
			return false
		}
		last = at
	}
	return true
}
