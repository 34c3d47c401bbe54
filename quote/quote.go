// Package quote has the quoted strings that several formats share.
package quote

import (
	"strings"
	"unicode/utf8"

	"datakit/api"
)

const hexDigits = "0123456789abcdef"

// Text returns the quoted string that stands for s, or ErrText.
func Text(s string) (string, api.Errno) {
	if !utf8.ValidString(s) {
		return "", api.ErrText
	}
	var out strings.Builder
	out.WriteByte('"')
	done := 0
	for i := range len(s) {
		if s[i] >= 32 && s[i] != '"' && s[i] != '\\' {
			continue
		}
		out.WriteString(s[done:i])
		out.WriteString(escape(s[i]))
		done = i + 1
	}
	out.WriteString(s[done:])
	out.WriteByte('"')
	return out.String(), api.OK
}

func escape(c byte) string {
	switch c {
	case '"', '\\':
		return "\\" + string(rune(c))
	case 8:
		return `\b`
	case 12:
		return `\f`
	case 10:
		return `\n`
	case 13:
		return `\r`
	case 9:
		return `\t`
	}
	return `\u00` + hexDigits[c>>4:c>>4+1] + hexDigits[c&15:c&15+1]
}

// What is expected next in a quoted string.
const (
	wantUnit = iota
	wantEscape
	wantHex
	wantSlash // of the second half of a pair
	wantU
)

// unquoter follows the units of a quoted string.
type unquoter struct {
	want   int
	digits int  // of a number that has begun
	number int  // what the digits stand for
	high   int  // the first half of a pair, or 0
	closed bool // the last quotation mark was met
	out    *strings.Builder
}

// Scan returns the length of the quoted string at the beginning of s, which
// begins with a quotation mark, and writes what it stands for unless out is nil.
func Scan(s string, out *strings.Builder) (int, api.Errno) {
	u := &unquoter{out: out}
	for i, r := range s {
		if i == 0 {
			continue
		}
		if u.want == wantUnit && (r < 32 || Broken(s, i, r)) {
			return 0, api.ErrText
		}
		if err := u.add(r); err != api.OK {
			return 0, err
		}
		if u.closed {
			return i + 1, api.OK
		}
	}
	return 0, api.ErrTruncated
}

func (u *unquoter) write(r rune) {
	if u.out != nil {
		u.out.WriteRune(r)
	}
}

func (u *unquoter) add(r rune) api.Errno {
	switch u.want {
	case wantEscape:
		return u.addEscape(r)
	case wantHex:
		return u.addHex(r)
	case wantSlash:
		if r != '\\' {
			return api.ErrText
		}
		u.want = wantU
		return api.OK
	case wantU:
		if r != 'u' {
			return api.ErrText
		}
		u.want = wantHex
		return api.OK
	}
	switch r {
	case '"':
		u.closed = true
	case '\\':
		u.want = wantEscape
	default:
		u.write(r)
	}
	return api.OK
}

func (u *unquoter) addEscape(r rune) api.Errno {
	if r == 'u' {
		u.want = wantHex
		return api.OK
	}
	i := strings.IndexRune(`"\/bfnrt`, r)
	if i < 0 {
		return api.ErrSyntax
	}
	u.write(rune("\"\\/\b\f\n\r\t"[i]))
	u.want = wantUnit
	return api.OK
}

func (u *unquoter) addHex(r rune) api.Errno {
	d := hexValue(r)
	if d < 0 {
		return api.ErrSyntax
	}
	u.number = u.number<<4 | d
	u.digits++
	if u.digits < 4 {
		return api.OK
	}
	n := u.number
	u.number, u.digits = 0, 0
	return u.addNumber(n)
}

func hexValue(r rune) int {
	switch {
	case '0' <= r && r <= '9':
		return int(r - '0')
	case 'a' <= r && r <= 'f':
		return int(r-'a') + 10
	case 'A' <= r && r <= 'F':
		return int(r-'A') + 10
	}
	return -1
}

func (u *unquoter) addNumber(n int) api.Errno {
	low := 0xDC00 <= n && n <= 0xDFFF
	switch {
	case u.high != 0 && low:
		u.write(rune(0x10000 + (u.high-0xD800)<<10 + n - 0xDC00))
		u.high = 0
	case u.high != 0 || low:
		return api.ErrText
	case 0xD800 <= n && n <= 0xDBFF:
		u.high = n
		u.want = wantSlash
		return api.OK
	default:
		u.write(rune(n))
	}
	u.want = wantUnit
	return api.OK
}

// Broken reports whether no character begins at an offset of a string, where a
// range over the string met r: FFFD is met there also if it is written.
func Broken(s string, at int, r rune) bool {
	if r != utf8.RuneError {
		return false
	}
	_, size := utf8.DecodeRuneInString(s[at:])
	return size == 1
}

// Follower follows the bytes of a quoted string after its first quotation mark.
// It does not look at whether they are valid UTF-8. Control is the error of a
// byte below 32 that stands for itself; if it is OK, that is ErrText.
type Follower struct {
	Control api.Errno
	u       unquoter
}

// Add takes a byte. It reports whether the string ends with it, or returns the
// error if the string is malformed with it.
func (f *Follower) Add(b byte) (bool, api.Errno) {
	if f.u.want == wantUnit && b < 32 {
		if f.Control != api.OK {
			return false, f.Control
		}
		return false, api.ErrText
	}
	err := f.u.add(rune(b))
	return f.u.closed, err
}
