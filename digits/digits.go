// Package digits is layer 1: natural numbers as digit strings. See shared/doc/01-digits.md.
package digits

import (
	"strconv"
	"strings"

	"datakit/api"
)

const maxInt = "9223372036854775807"

func allDigits(s string) bool {
	for i := range len(s) {
		if s[i] < '0' || s[i] > '9' {
			return false
		}
	}
	return true
}

// Valid reports whether s is a numeral: digits without leading zeros, at most MaxNumeral; the empty string is zero.
func Valid(s string) bool {
	return len(s) <= api.MaxNumeral && allDigits(s) && (s == "" || s[0] != '0')
}

// Trim returns a string of digits without its leading zeros.
func Trim(s string) (string, api.Errno) {
	if !allDigits(s) {
		return "", api.ErrSyntax
	}
	return limited(strings.TrimLeft(s, "0"))
}

// limited returns a result, unless it is too long for a numeral.
func limited(s string) (string, api.Errno) {
	if len(s) > api.MaxNumeral {
		return "", api.ErrRange
	}
	return s, api.OK
}

// FromInt returns the numeral of n, or the empty string if n is negative.
func FromInt(n int) string {
	if n <= 0 {
		return ""
	}
	return strconv.Itoa(n)
}

// ToInt returns the number of a numeral.
func ToInt(s string) (int, api.Errno) {
	if !Valid(s) {
		return 0, api.ErrSyntax
	}
	if Cmp(s, maxInt) > 0 {
		return 0, api.ErrRange
	}
	n := 0
	for i := range len(s) {
		n = n*10 + int(s[i]-'0')
	}
	return n, api.OK
}

// Cmp compares two numerals.
func Cmp(a, b string) int {
	if len(a) != len(b) {
		if len(a) < len(b) {
			return -1
		}
		return 1
	}
	return strings.Compare(a, b)
}

// Add returns the sum.
func Add(a, b string) (string, api.Errno) {
	if !Valid(a) || !Valid(b) {
		return "", api.ErrArg
	}
	n := max(len(a), len(b)) + 1
	sum := make([]byte, n)
	carry := 0
	for i := range n {
		d := digit(a, i) + digit(b, i) + carry
		sum[n-1-i] = byte('0' + d%10)
		carry = d / 10
	}
	return limited(strings.TrimLeft(string(sum), "0"))
}

// digit returns the digit number i, counted from the end.
func digit(s string, i int) int {
	if i >= len(s) {
		return 0
	}
	return int(s[len(s)-1-i] - '0')
}

// Sub returns the difference.
func Sub(a, b string) (string, api.Errno) {
	if !Valid(a) || !Valid(b) {
		return "", api.ErrArg
	}
	if Cmp(a, b) < 0 {
		return "", api.ErrRange
	}
	return minus(a, b), api.OK
}

// minus returns a - b, where b is at most a.
func minus(a, b string) string {
	n := len(a)
	rest := make([]byte, n)
	borrow := 0
	for i := range n {
		d := digit(a, i) - digit(b, i) - borrow
		borrow = 0
		if d < 0 {
			d += 10
			borrow = 1
		}
		rest[n-1-i] = byte('0' + d)
	}
	return strings.TrimLeft(string(rest), "0")
}

// Mul returns the product.
func Mul(a, b string) (string, api.Errno) {
	if !Valid(a) || !Valid(b) {
		return "", api.ErrArg
	}
	n := len(a) + len(b)
	sums := make([]int, n+1)
	for i := range len(a) {
		for j := range len(b) {
			sums[i+j] += digit(a, i) * digit(b, j)
		}
	}
	product := make([]byte, n)
	carry := 0
	for i := range n {
		carry += sums[i]
		product[n-1-i] = byte('0' + carry%10)
		carry /= 10
	}
	return limited(strings.TrimLeft(string(product), "0"))
}

// Quo returns the quotient and the remainder.
func Quo(a, b string) (q, r string, e api.Errno) {
	if !Valid(a) || !Valid(b) {
		return "", "", api.ErrArg
	}
	if b == "" {
		return "", "", api.ErrDivide
	}
	quotient := make([]byte, len(a))
	rest := ""
	for i := range len(a) {
		rest = strings.TrimLeft(rest+a[i:i+1], "0")
		count := byte('0')
		for Cmp(rest, b) >= 0 {
			rest = minus(rest, b)
			count++
		}
		quotient[i] = count
	}
	return strings.TrimLeft(string(quotient), "0"), rest, api.OK
}

// Shift returns a times 10^n, rounded down.
func Shift(a string, n int) (string, api.Errno) {
	if !Valid(a) {
		return "", api.ErrArg
	}
	if a == "" || n <= -len(a) {
		return "", api.OK
	}
	if n < 0 {
		return a[:len(a)+n], api.OK
	}
	if n > api.MaxNumeral-len(a) {
		return "", api.ErrRange
	}
	return a + strings.Repeat("0", n), api.OK
}

// Zeros returns the number of trailing zeros.
func Zeros(a string) int { return len(a) - len(strings.TrimRight(a, "0")) }
