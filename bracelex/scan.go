package bracelex

import (
	"strings"

	"datakit/api"
	"datakit/quote"
)

func letter(c byte) bool { return 'a' <= c && c <= 'z' || 'A' <= c && c <= 'Z' }

func digit(c byte) bool { return '0' <= c && c <= '9' }

func wordByte(c byte) bool {
	return letter(c) || digit(c) || strings.IndexByte("_$+-.", c) >= 0
}

// scan returns the kind and the length of the token at the beginning of a
// string that is not empty.
func scan(s string) (int, int, api.Errno) {
	switch c := s[0]; {
	case c == ' ' || c == '\t':
		return api.TokSpace, len(s) - len(strings.TrimLeft(s, " \t")), api.OK
	case c == '\n':
		return api.TokLine, 1, api.OK
	case c == '\r':
		return scanReturn(s)
	case c == '/':
		return scanComment(s)
	case strings.IndexByte("[]{},:", c) >= 0:
		return api.TokPunct, 1, api.OK
	case c == '"':
		return scanText(s, 0)
	case (c == 't' || c == 'b') && strings.HasPrefix(s[1:], "\""):
		return scanText(s, 1)
	case wordByte(c):
		return scanWord(s)
	}
	return 0, 0, api.ErrSyntax
}

func scanReturn(s string) (int, int, api.Errno) {
	if len(s) == 1 {
		return 0, 0, api.ErrTruncated
	}
	if s[1] != '\n' {
		return 0, 0, api.ErrSyntax
	}
	return api.TokLine, 2, api.OK
}

func scanComment(s string) (int, int, api.Errno) {
	if len(s) == 1 {
		return 0, 0, api.ErrTruncated
	}
	size, err := 0, api.ErrSyntax
	switch s[1] {
	case '/':
		size, err = lineComment(s)
	case '*':
		size, err = blockComment(s)
	}
	if err != api.OK {
		return 0, 0, err
	}
	return api.TokComment, size, api.OK
}

func lineComment(s string) (int, api.Errno) {
	for i, r := range s {
		if r == '\n' || r == '\r' && strings.HasPrefix(s[i+1:], "\n") {
			return i, api.OK
		}
		if quote.Broken(s, i, r) {
			return 0, api.ErrText
		}
	}
	return len(s), api.OK
}

func blockComment(s string) (int, api.Errno) {
	for i, r := range s {
		if i >= 2 && r == '*' && strings.HasPrefix(s[i+1:], "/") {
			return i + 2, api.OK
		}
		if quote.Broken(s, i, r) {
			return 0, api.ErrText
		}
	}
	return 0, api.ErrTruncated
}

func scanText(s string, prefix int) (int, int, api.Errno) {
	size, err := quote.Scan(s[prefix:], nil)
	if err != api.OK {
		return 0, 0, err
	}
	return api.TokText, prefix + size, api.OK
}

func scanWord(s string) (int, int, api.Errno) {
	size := 1
	for size < len(s) && wordByte(s[size]) {
		size++
	}
	complete, begun := number(s[:size])
	if complete || Bare(s[:size]) {
		return api.TokWord, size, api.OK
	}
	if begun && size == len(s) {
		return 0, 0, api.ErrTruncated
	}
	return 0, 0, api.ErrSyntax
}

// The states of a number.
const (
	numBegin = iota
	numMinus
	numZero
	numWhole
	numPoint
	numFraction
	numE
	numSign
	numExponent
	numNone
)

// number reports whether a string is a number, and whether it is the beginning
// of one.
func number(s string) (complete, begun bool) {
	state := numBegin
	for i := range len(s) {
		state = afterByte(state, s[i])
	}
	switch state {
	case numZero, numWhole, numFraction, numExponent:
		complete = true
	}
	return complete, state != numNone
}

func afterByte(state int, c byte) int {
	switch {
	case digit(c):
		return afterDigit(state, c)
	case c == '-' && state == numBegin:
		return numMinus
	case c == '.' && (state == numZero || state == numWhole):
		return numPoint
	case (c == 'e' || c == 'E') && (state == numZero || state == numWhole || state == numFraction):
		return numE
	case (c == '+' || c == '-') && state == numE:
		return numSign
	}
	return numNone
}

func afterDigit(state int, c byte) int {
	switch state {
	case numBegin, numMinus:
		if c == '0' {
			return numZero
		}
		return numWhole
	case numWhole:
		return numWhole
	case numPoint, numFraction:
		return numFraction
	case numE, numSign, numExponent:
		return numExponent
	}
	return numNone
}
