package archive

import (
	"strconv"
	"strings"

	"fluxmast/api"
)

// Answer answers a line.
func (a *Archive) Answer(line string) string {
	answer, _ := a.answer(line)
	return answer
}

// Run answers the lines of a script.
func (a *Archive) Run(script string) (string, int, api.Errno) {
	switch {
	case a == nil:
		return "", 0, api.ErrArg
	case len(script) > api.MaxText:
		return "", 0, api.ErrSize
	}
	var answers strings.Builder
	at := 0
	for line := range strings.Lines(script) {
		at++
		line = strings.TrimSuffix(line, "\n")
		if line == "" || line[0] == '#' {
			continue
		}
		answer, e := a.answer(line)
		answers.WriteString(answer + "\n")
		if e != api.OK {
			return answers.String(), at, e
		}
	}
	return answers.String(), 0, api.OK
}

// answer returns the answer to a line, and the error that it tells. (An answer without an error may have the same text:
// items may be called `error` and `5`.)
func (a *Archive) answer(line string) (string, api.Errno) {
	if a == nil {
		return told("", api.ErrArg)
	}
	words := strings.Split(line, " ")
	if !areNames(words) { // no question
		return told("ok", a.Do(line))
	}
	switch {
	case len(words) == 1 && words[0] == "items":
		return strings.Join(a.now.items(), " "), api.OK
	case len(words) == 2 && words[0] == "rests":
		l, e := a.Rests(words[1])
		return told(strings.Join(l, " "), e)
	case len(words) == 2 && words[0] == "trace":
		l, e := a.Trace(words[1])
		return told(strings.Join(l, " "), e)
	case len(words) == 3 && words[0] == "ask":
		value, version, e := a.Ask(words[1], words[2])
		return told(value+" "+strconv.Itoa(version), e)
	}
	return told("ok", a.Do(line))
}

// told returns an answer, or the one that tells of an error, and this error.
func told(answer string, e api.Errno) (string, api.Errno) {
	if e != api.OK {
		return "error " + e.Error(), e
	}
	return answer, api.OK
}
