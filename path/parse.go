package path

import (
	"strconv"
	"strings"

	"datakit/api"
	"datakit/utf"
)

// Parse returns the path of a text.
func Parse(s string) ([]api.Step, api.Errno) {
	if !utf.Valid(s) {
		return nil, api.ErrText
	}
	if s == "." {
		return nil, api.OK
	}
	rest := s
	if strings.HasPrefix(rest, ".[") {
		rest = rest[1:]
	}
	// next moves on to what follows the next step.
	next := func() (api.Step, bool) {
		step, size, ok := stepOf(rest)
		rest = rest[size:]
		return step, ok
	}
	var p []api.Step
	for rest != "" && len(p) < api.MaxSteps {
		step, ok := next()
		if !ok {
			return nil, api.ErrSyntax
		}
		p = append(p, step)
	}
	// Only one text of a path is accepted; this also tells other spellings of numbers and keys.
	if rest != "" || !Valid(p) || Text(p) != s {
		return nil, api.ErrSyntax
	}
	return p, api.OK
}

// stepOf returns the step that s begins with, and its size.
func stepOf(s string) (api.Step, int, bool) {
	if s[0] == '[' {
		end := strings.IndexByte(s, ']')
		if end < 0 {
			return api.Step{}, 0, false
		}
		n, err := strconv.Atoi(s[1:end])
		return At(n), end + 1, err == nil
	}
	if s[0] != '.' || len(s) < 2 {
		return api.Step{}, 0, false
	}
	if s[1] == '"' {
		key, size, ok := unescape(s[2:])
		return Key(key), 2 + size, ok
	}
	end := 1
	for end < len(s) && s[end] != '.' && s[end] != '[' {
		end++
	}
	return Key(s[1:end]), end, true
}

// unescape reads a key up to its closing quotation mark, and returns the size of what it read.
func unescape(s string) (string, int, bool) {
	var b strings.Builder
	at := 0
	for at < len(s) {
		c := s[at]
		at++
		if c == '"' {
			return b.String(), at, true
		}
		if c != '\\' {
			b.WriteByte(c)
			continue
		}
		char, size, ok := escaped(s[at:])
		if !ok {
			return "", 0, false
		}
		b.WriteByte(char)
		at += size
	}
	return "", 0, false
}

// escaped returns the byte for which an escape stands, and the size of what follows its backslash.
func escaped(s string) (byte, int, bool) {
	if s == "" {
		return 0, 0, false
	}
	switch s[0] {
	case '"', '\\':
		return s[0], 1, true
	case 'n':
		return '\n', 1, true
	case 't':
		return '\t', 1, true
	case 'r':
		return '\r', 1, true
	}
	end := strings.IndexByte(s, '}')
	if !strings.HasPrefix(s, "u{") || end < 0 {
		return 0, 0, false
	}
	n, err := strconv.ParseUint(s[2:end], 16, 7)
	return byte(n), end + 1, err == nil
}
