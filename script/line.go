package script

import (
	"strconv"
	"strings"

	"datakit/api"
	"datakit/canon"
	"datakit/path"
	"datakit/quote"
	"datakit/reader"
	"datakit/utf"
)

// Parse returns the command of a line.
func Parse(line string) (api.Command, api.Errno) {
	switch {
	case len(line) > api.MaxLine:
		return api.Command{}, api.ErrSize
	case !utf.Valid(line):
		return api.Command{}, api.ErrText
	}
	name, _, _ := strings.Cut(line, " ")
	c := api.Command{Name: name}
	for rest := line[len(name):]; rest != ""; {
		arg, size, ok := first(rest[1:])
		if !ok {
			return api.Command{}, api.ErrSyntax
		}
		c.Args = append(c.Args, arg)
		rest = rest[1+size:]
	}
	// An argument may be spelt in a way in which it is not written.
	if text, err := Text(c); err != api.OK || text != line {
		return api.Command{}, api.ErrSyntax
	}
	return c, api.OK
}

// first returns the argument at the beginning of a string, which a space or the
// end follows, and the length of what it is written as.
func first(s string) (string, int, bool) {
	if !strings.HasPrefix(s, `"`) {
		word, _, _ := strings.Cut(s, " ")
		return word, len(word), true
	}
	var out strings.Builder
	size, err := quote.Scan(s, &out)
	if err != api.OK || size < len(s) && s[size] != ' ' {
		return "", 0, false
	}
	return out.String(), size, true
}

// Text returns the line of a command.
func Text(c api.Command) (string, api.Errno) {
	if !named(c.Name) {
		return "", api.ErrArg
	}
	line := c.Name
	for _, arg := range c.Args {
		text, err := written(arg)
		if err != api.OK {
			return "", err
		}
		line += " " + text
	}
	if len(line) > api.MaxLine {
		return "", api.ErrSize
	}
	return line, api.OK
}

func named(name string) bool {
	for _, c := range name {
		if c < 'a' || c > 'z' {
			return false
		}
	}
	return name != "" && len(name) <= api.MaxName
}

// written returns a string as it is written as an argument.
func written(s string) (string, api.Errno) {
	for i := range len(s) {
		if s[i] < 33 || s[i] > 126 || s[i] == '"' {
			return quote.Text(s)
		}
	}
	if s == "" {
		return `""`, api.OK
	}
	return s, api.OK
}

// argument is an argument of a command; what is set depends on its kind.
type argument struct {
	number int // of a slot, a depth, or a format
	path   []api.Step
	val    api.Value
	text   string
}

// argument reads an argument of a kind.
func (s *Session) argument(kind byte, text string) (argument, api.Errno) {
	switch kind {
	case 'S', 'T':
		n, ok := number(text, 0, api.MaxSlots-1)
		if !ok {
			return argument{}, api.ErrRange
		}
		if kind == 'S' && !s.slots[n].full {
			return argument{}, api.ErrNotFound
		}
		return argument{number: n}, api.OK
	case 'N':
		n, ok := number(text, 1, api.MaxSteps)
		if !ok {
			return argument{}, api.ErrRange
		}
		return argument{number: n}, api.OK
	case 'F':
		format, ok := reader.Named(text)
		if !ok {
			return argument{}, api.ErrKind
		}
		return argument{number: format}, api.OK
	case 'P':
		p, err := path.Parse(text)
		return argument{path: p}, err
	case 'V':
		v, err := canon.Read(text)
		return argument{val: v}, err
	}
	return argument{text: text}, api.OK
}

// number reads a number from least to most.
func number(text string, least, most int) (int, bool) {
	n, err := strconv.Atoi(text)
	if err != nil || n < least || n > most || strconv.Itoa(n) != text {
		return 0, false
	}
	return n, true
}
