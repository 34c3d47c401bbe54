// Package source has what the readers and writers of several formats share.
package source

import (
	"strings"
	"unicode/utf8"

	"datakit/api"
	"datakit/decimal"
)

// Invalid returns the offset of the first byte at which no character begins,
// or -1 if the string is valid UTF-8.
func Invalid(s string) int {
	if utf8.ValidString(s) {
		return -1
	}
	for i, r := range s {
		if r != utf8.RuneError {
			continue
		}
		// The character FFFD itself is met as well.
		if _, size := utf8.DecodeRuneInString(s[i:]); size == 1 {
			return i
		}
	}
	return -1
}

// Number returns the text of a number.
func Number(d api.Decimal) string { return decimal.Text(d) }

// ReadNumber returns the number of a text.
func ReadNumber(s string) (api.Decimal, api.Errno) { return decimal.Parse(s) }

// Simple reports whether a string may be written as a key, and in most cases as
// a scalar, without quotation marks.
func Simple(s string) bool {
	if s == "" || !utf8.ValidString(s) || Dashed(s) || s[0] == ' ' || s[len(s)-1] == ' ' {
		return false
	}
	for i := range len(s) {
		if !simpleByte(s[i]) {
			return false
		}
	}
	return true
}

// Dashed reports whether a string begins like an entry of a list.
func Dashed(s string) bool { return s == "-" || strings.HasPrefix(s, "- ") }

func simpleByte(c byte) bool {
	switch {
	case 'a' <= c && c <= 'z', 'A' <= c && c <= 'Z', '0' <= c && c <= '9', c >= 128:
		return true
	}
	return strings.IndexByte(" _-./+$()=", c) >= 0
}

// Partner returns the offset behind the partner of the quotation mark with which
// a string begins, or 0 if there is none.
func Partner(s string) int {
	quote := s[0]
	for i := 1; i < len(s); i++ {
		switch {
		case s[i] == '\\' && quote == '"':
			i++
		case s[i] != quote:
		case quote == '\'' && strings.HasPrefix(s[i+1:], "'"):
			i++
		default:
			return i + 1
		}
	}
	return 0
}

// Int returns an integer as a number.
func Int(n int) api.Decimal { return decimal.FromInt(n) }

// Index returns a number as an int, and whether it is an integer from 0 to most.
func Index(d api.Decimal, most int) (int, bool) {
	n, err := decimal.ToInt(d)
	if err != api.OK || n < 0 || n > most {
		return 0, false
	}
	return n, true
}
