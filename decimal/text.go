package decimal

import (
	"strconv"
	"strings"

	"datakit/api"
)

// Text returns the canonical text.
func Text(d api.Decimal) string {
	if !Valid(d) {
		return ""
	}
	if d.Digits == "" {
		return "0"
	}
	text := absText(d.Digits, d.Exp)
	if d.Neg {
		return "-" + text
	}
	return text
}

func absText(numeral string, exp int) string {
	n := len(numeral)
	p := n + exp
	switch {
	case exp >= 0 && p <= 21:
		return numeral + strings.Repeat("0", exp)
	case exp < 0 && p >= 1 && p <= 21:
		return numeral[:p] + "." + numeral[p:]
	case p >= -5 && p <= 0:
		return "0." + strings.Repeat("0", -p) + numeral
	}
	mantissa := numeral[:1]
	if n > 1 {
		mantissa += "." + numeral[1:]
	}
	return mantissa + "e" + strconv.Itoa(p-1)
}

// farExp is beyond every exponent that the digits of a text could bring back into range.
const farExp = 1 << 40

// Parse returns the number of a text.
func Parse(s string) (api.Decimal, api.Errno) {
	rest, neg := strings.CutPrefix(s, "-")
	whole := digitsOf(rest)
	if whole == "" || len(whole) > 1 && whole[0] == '0' {
		return api.Decimal{}, api.ErrSyntax
	}
	rest = rest[len(whole):]
	fraction := ""
	if after, ok := strings.CutPrefix(rest, "."); ok {
		fraction = digitsOf(after)
		if fraction == "" {
			return api.Decimal{}, api.ErrSyntax
		}
		rest = after[len(fraction):]
	}
	exp, ok := exponent(rest)
	if !ok {
		return api.Decimal{}, api.ErrSyntax
	}
	return Make(neg, whole+fraction, exp-len(fraction))
}

// digitsOf returns the digits that s begins with.
func digitsOf(s string) string {
	for i := range len(s) {
		if s[i] < '0' || s[i] > '9' {
			return s[:i]
		}
	}
	return s
}

// exponent returns the number of the last part of a text, which may be missing.
func exponent(s string) (int, bool) {
	if s == "" {
		return 0, true
	}
	if s[0] != 'e' && s[0] != 'E' {
		return 0, false
	}
	s = s[1:]
	neg := strings.HasPrefix(s, "-")
	if neg || strings.HasPrefix(s, "+") {
		s = s[1:]
	}
	if s == "" || digitsOf(s) != s {
		return 0, false
	}
	exp := 0
	for i := range len(s) {
		exp = min(exp*10+int(s[i]-'0'), farExp)
	}
	if neg {
		exp = -exp
	}
	return exp, true
}
