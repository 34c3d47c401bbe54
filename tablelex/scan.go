package tablelex

import (
	"strings"

	"datakit/api"
	"datakit/quote"
	"datakit/utf"
)

func digit(c byte) bool { return '0' <= c && c <= '9' }

// keyByte reports whether a byte may stand in a bare key.
func keyByte(c byte) bool {
	return 'a' <= c && c <= 'z' || 'A' <= c && c <= 'Z' || digit(c) || c == '_' || c == '-'
}

func wordByte(c byte) bool { return keyByte(c) || c == '+' || c == '.' || c == ':' }

// Next returns the token at an offset.
func Next(src string, at int) (api.Token, api.Errno) {
	if at < 0 || at > len(src) {
		return api.Token{}, api.ErrArg
	}
	if at == len(src) {
		return api.Token{}, api.ErrNotFound
	}
	kind, size, err := scan(src[at:])
	if err != api.OK {
		return api.Token{}, err
	}
	return api.Token{Kind: kind, Text: src[at : at+size], At: at}, api.OK
}

// scan returns the kind and the length of the token at the beginning of a
// string that is not empty.
func scan(s string) (kind, size int, err api.Errno) {
	run := func(class func(c byte) bool) int {
		n := 1
		for n < len(s) && class(s[n]) {
			n++
		}
		return n
	}
	isSpace := func(c byte) bool { return c == ' ' || c == '\t' }
	switch c := s[0]; {
	case isSpace(c):
		return api.TokSpace, run(isSpace), api.OK
	case c == '\n' || strings.HasPrefix(s, "\r\n"):
		return api.TokLine, strings.IndexByte(s, '\n') + 1, api.OK
	case s == "\r":
		return 0, 0, api.ErrTruncated
	case c == '#':
		kind = api.TokComment
		size, err = comment(s)
	case strings.IndexByte("[]{},=", c) >= 0:
		return api.TokPunct, 1, api.OK
	case c == '"':
		kind = api.TokText
		size, err = quote.Scan(s, nil)
	case c == '\'':
		kind = api.TokText
		size, err = singleQuoted(s)
	case wordByte(c):
		size = run(wordByte)
		if dateBeforeClock(s, size) {
			clock := strings.TrimLeftFunc(s[size+1:], func(r rune) bool { return r < 128 && wordByte(byte(r)) })
			size = len(s) - len(clock)
		}
		return api.TokWord, size, api.OK
	default:
		return 0, 0, api.ErrSyntax
	}
	if err != api.OK {
		return 0, 0, err
	}
	return kind, size, api.OK
}

func comment(s string) (int, api.Errno) {
	for i, r := range s {
		if r == '\n' || r == '\r' && strings.HasPrefix(s[i+1:], "\n") {
			return i, api.OK
		}
		if quote.Broken(s, i, r) {
			return 0, api.ErrText
		}
	}
	return len(s), api.OK
}

// singleQuoted returns the length of the single-quoted string at the beginning
// of s, which begins with '.
func singleQuoted(s string) (int, api.Errno) {
	for at := 1; at < len(s); {
		r, size := utf.Decode(s, at)
		if size == 0 || r < 32 {
			return 0, api.ErrText
		}
		at += size
		if r == '\'' {
			return at, api.OK
		}
	}
	return 0, api.ErrTruncated
}

// dateBeforeClock reports whether a word of some bytes is a date that a space
// and the beginning of a time of day follow.
func dateBeforeClock(s string, size int) bool {
	return size == 10 && like(s, "0000-00-00 00:")
}

// like reports whether a string begins as a form says, in which each 0 stands
// for any digit.
func like(s, form string) bool {
	if len(s) < len(form) {
		return false
	}
	for i := range len(form) {
		if form[i] == '0' && !digit(s[i]) || form[i] != '0' && s[i] != form[i] {
			return false
		}
	}
	return true
}
