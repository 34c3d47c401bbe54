// Package checked finds the first byte at which a source that arrives in parts
// is not valid UTF-8.
package checked

import "unicode/utf8"

// Text follows the bytes of a source. Of a character that has begun it knows
// how many bytes are missing, and between which values the next one must be.
type Text struct {
	at      int // the bytes that were taken
	begin   int // the offset of the character that has begun
	missing int
	lo, hi  byte
}

// Add takes a part up to the first byte at which it is known that no character
// begins at some offset, which it returns; or -1.
func (t *Text) Add(part string) int {
	if t.missing == 0 && utf8.ValidString(part) {
		t.at += len(part)
		return -1
	}
	for i := range len(part) {
		if !t.next(part[i]) {
			return t.begin
		}
		t.at++
	}
	return -1
}

// End returns the offset of a character that has not ended, or -1.
func (t *Text) End() int {
	if t.missing > 0 {
		return t.begin
	}
	return -1
}

func (t *Text) next(b byte) bool {
	if t.missing > 0 {
		ok := t.lo <= b && b <= t.hi
		t.missing--
		t.lo, t.hi = 0x80, 0xBF
		return ok
	}
	t.begin = t.at
	t.lo, t.hi = 0x80, 0xBF
	switch {
	case b < 0x80:
		return true
	case 0xC2 <= b && b <= 0xDF:
		t.missing = 1
	case 0xE0 <= b && b <= 0xEF:
		t.missing = 2
	case 0xF0 <= b && b <= 0xF4:
		t.missing = 3
	default:
		return false
	}
	switch b {
	case 0xE0:
		t.lo = 0xA0
	case 0xED:
		t.hi = 0x9F
	case 0xF0:
		t.lo = 0x90
	case 0xF4:
		t.hi = 0x8F
	}
	return true
}
