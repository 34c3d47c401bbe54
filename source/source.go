// Package source has what the readers and writers of several formats share.
package source

import (
	"unicode/utf8"

	"datakit/api"
	"datakit/decimal"
)

// Invalid returns the offset of the first byte at which no character begins,
// or -1 if the string is valid UTF-8.
func Invalid(s string) int {
	if utf8.ValidString(s) {
		return -1
	}
	for i, r := range s {
		if r != utf8.RuneError {
			continue
		}
		// The character FFFD itself is met as well.
		if _, size := utf8.DecodeRuneInString(s[i:]); size == 1 {
			return i
		}
	}
	return -1
}

// Number returns the text of a number.
func Number(d api.Decimal) string { return decimal.Text(d) }
