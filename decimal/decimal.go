// Package decimal is layer 2: exact decimals. See shared/doc/02-decimal.md.
package decimal

import (
	"strconv"
	"strings"

	"datakit/api"
	"datakit/digits"
)

// Valid reports whether d is in normal form and within its limits.
func Valid(d api.Decimal) bool {
	if d.Digits == "" {
		return d == api.Decimal{}
	}
	return len(d.Digits) <= api.MaxDigits && digits.Valid(d.Digits) && digits.Zeros(d.Digits) == 0 &&
		-api.MaxExp <= d.Exp && d.Exp <= api.MaxExp
}

// Make returns a number in normal form.
func Make(neg bool, numeral string, exp int) (api.Decimal, api.Errno) {
	for i := range len(numeral) {
		if numeral[i] < '0' || numeral[i] > '9' {
			return api.Decimal{}, api.ErrSyntax
		}
	}
	numeral = strings.TrimLeft(numeral, "0")
	if numeral == "" {
		return api.Decimal{}, api.OK
	}
	zeros := digits.Zeros(numeral)
	numeral = numeral[:len(numeral)-zeros]
	if len(numeral) > api.MaxDigits || exp > api.MaxExp-zeros || exp < -api.MaxExp-zeros {
		return api.Decimal{}, api.ErrRange
	}
	return api.Decimal{Neg: neg, Digits: numeral, Exp: exp + zeros}, api.OK
}

// FromInt returns an integer.
func FromInt(n int) api.Decimal {
	d, _ := Make(n < 0, strings.TrimPrefix(strconv.Itoa(n), "-"), 0)
	return d
}

// ToInt returns the int that d is.
func ToInt(d api.Decimal) (int, api.Errno) {
	if !Valid(d) {
		return 0, api.ErrArg
	}
	if !Whole(d) {
		return 0, api.ErrInexact
	}
	if len(d.Digits)+d.Exp > 19 {
		return 0, api.ErrRange
	}
	text := d.Digits + strings.Repeat("0", d.Exp)
	if text == "" {
		return 0, api.OK
	}
	if d.Neg {
		text = "-" + text
	}
	n, err := strconv.ParseInt(text, 10, 64)
	if err != nil {
		return 0, api.ErrRange
	}
	return int(n), api.OK
}

// Whole reports whether d is an integer.
func Whole(d api.Decimal) bool { return d.Exp >= 0 }

// Cmp compares two numbers.
func Cmp(a, b api.Decimal) int {
	if s, t := sign(a), sign(b); s != t {
		return compareInts(s, t)
	}
	if a.Neg {
		return cmpAbs(b, a)
	}
	return cmpAbs(a, b)
}

func sign(d api.Decimal) int {
	switch {
	case d.Digits == "":
		return 0
	case d.Neg:
		return -1
	}
	return 1
}

func compareInts(a, b int) int {
	if a < b {
		return -1
	}
	if a > b {
		return 1
	}
	return 0
}

// cmpAbs compares the absolute values of two numbers that have the same sign.
func cmpAbs(a, b api.Decimal) int {
	if c := compareInts(len(a.Digits)+a.Exp, len(b.Digits)+b.Exp); c != 0 {
		return c
	}
	return strings.Compare(a.Digits, b.Digits)
}

// Neg returns -a.
func Neg(a api.Decimal) api.Decimal {
	if a.Digits == "" {
		return api.Decimal{}
	}
	a.Neg = !a.Neg
	return a
}

// Abs returns the absolute value.
func Abs(a api.Decimal) api.Decimal {
	a.Neg = false
	return a
}

// Add returns the sum.
func Add(a, b api.Decimal) (api.Decimal, api.Errno) {
	if !Valid(a) || !Valid(b) {
		return api.Decimal{}, api.ErrArg
	}
	if a.Digits == "" {
		return b, api.OK
	}
	if b.Digits == "" {
		return a, api.OK
	}
	exp := min(a.Exp, b.Exp)
	x, e := digits.Shift(a.Digits, a.Exp-exp)
	if e != api.OK {
		// The sum would have about as many digits as the shifted number, the last of them not 0.
		return api.Decimal{}, api.ErrRange
	}
	y, e := digits.Shift(b.Digits, b.Exp-exp)
	if e != api.OK {
		return api.Decimal{}, api.ErrRange
	}
	if a.Neg == b.Neg {
		sum, e := digits.Add(x, y)
		if e != api.OK {
			return api.Decimal{}, e
		}
		return Make(a.Neg, sum, exp)
	}
	if digits.Cmp(x, y) < 0 {
		x, y = y, x
		a.Neg = b.Neg
	}
	rest, _ := digits.Sub(x, y)
	return Make(a.Neg, rest, exp)
}

// Sub returns the difference.
func Sub(a, b api.Decimal) (api.Decimal, api.Errno) { return Add(a, Neg(b)) }

// Mul returns the product.
func Mul(a, b api.Decimal) (api.Decimal, api.Errno) {
	if !Valid(a) || !Valid(b) {
		return api.Decimal{}, api.ErrArg
	}
	product, _ := digits.Mul(a.Digits, b.Digits)
	return Make(a.Neg != b.Neg, product, a.Exp+b.Exp)
}

// Sum returns the sum of a list.
func Sum(l ...api.Decimal) (api.Decimal, api.Errno) {
	sum := api.Decimal{}
	for _, d := range l {
		next, e := Add(sum, d)
		if e != api.OK {
			return api.Decimal{}, e
		}
		sum = next
	}
	return sum, api.OK
}
