package decimal

import (
	"datakit/api"
	"datakit/digits"
)

const (
	// A quotient of numerals of MaxDigits digits that has a finite decimal has at most 399 digits after the point, since 2^399 is above 10^120.
	exactPlaces = 400
	// A numeral of MaxDigits digits can be shifted by so much.
	maxShift = api.MaxNumeral - api.MaxDigits
)

// Div returns the quotient if it is a decimal.
func Div(a, b api.Decimal) (api.Decimal, api.Errno) {
	if !Valid(a) || !Valid(b) {
		return api.Decimal{}, api.ErrArg
	}
	if b.Digits == "" {
		return api.Decimal{}, api.ErrDivide
	}
	shifted, _ := digits.Shift(a.Digits, exactPlaces)
	q, r, _ := digits.Quo(shifted, b.Digits)
	if r != "" {
		return api.Decimal{}, api.ErrInexact
	}
	return Make(a.Neg != b.Neg, q, a.Exp-b.Exp-exactPlaces)
}

// Quo returns the quotient, rounded.
func Quo(a, b api.Decimal, places, mode int) (api.Decimal, api.Errno) {
	if mode < api.RoundDown || mode > api.RoundHalfUp || places < -api.MaxExp || places > api.MaxExp {
		return api.Decimal{}, api.ErrArg
	}
	if !Valid(a) || !Valid(b) {
		return api.Decimal{}, api.ErrArg
	}
	if b.Digits == "" {
		return api.Decimal{}, api.ErrDivide
	}
	shift := a.Exp - b.Exp + places
	if shift > maxShift {
		// So many digits leave no room for rounding: the result is exact or has too many of them.
		d, e := Div(a, b)
		if e == api.ErrInexact {
			e = api.ErrRange
		}
		return d, e
	}
	neg := a.Neg != b.Neg
	q, r, divisor := "", a.Digits, ""
	if shift >= 0 {
		dividend, _ := digits.Shift(a.Digits, shift)
		divisor = b.Digits
		q, r, _ = digits.Quo(dividend, divisor)
	} else {
		// A dividend of at most MaxDigits digits is far below half of a divisor that is shifted so far.
		divisor, _ = digits.Shift(b.Digits, min(-shift, maxShift))
		q, r, _ = digits.Quo(a.Digits, divisor)
	}
	if raises(q, r, divisor, neg, mode) {
		q, _ = digits.Add(q, "1")
	}
	return Make(neg, q, -places)
}

// raises reports whether the absolute value q of a quotient, whose remainder is r, is rounded away from zero.
func raises(q, r, divisor string, neg bool, mode int) bool {
	if r == "" {
		return false
	}
	rest, _ := digits.Sub(divisor, r)
	half := digits.Cmp(r, rest)
	switch mode {
	case api.RoundDown:
		return neg
	case api.RoundUp:
		return !neg
	case api.RoundEven:
		odd := q != "" && (q[len(q)-1]-'0')%2 == 1
		return half > 0 || half == 0 && odd
	case api.RoundHalfUp:
		return half >= 0
	}
	return false
}

// Round returns a, rounded.
func Round(a api.Decimal, places, mode int) (api.Decimal, api.Errno) {
	return Quo(a, api.Decimal{Digits: "1"}, places, mode)
}

// Mod returns a minus b times the quotient rounded down.
func Mod(a, b api.Decimal) (api.Decimal, api.Errno) {
	if !Valid(a) || !Valid(b) {
		return api.Decimal{}, api.ErrArg
	}
	if b.Digits == "" {
		return api.Decimal{}, api.ErrDivide
	}
	if a.Digits == "" {
		return api.Decimal{}, api.OK
	}
	exp := min(a.Exp, b.Exp)
	divisor, e := digits.Shift(b.Digits, b.Exp-exp)
	if e != api.OK {
		// b is far above a, and the last digit of a stays.
		if a.Neg == b.Neg {
			return a, api.OK
		}
		return api.Decimal{}, api.ErrRange
	}
	r := remainder(a.Digits, a.Exp-exp, divisor)
	if r != "" && a.Neg != b.Neg {
		r, _ = digits.Sub(divisor, r)
	}
	return Make(b.Neg, r, exp)
}

// remainder returns the remainder of a * 10^shift, which need not be a numeral. With a shift above 0 the divisor has at most MaxDigits digits.
func remainder(a string, shift int, divisor string) string {
	_, r, _ := digits.Quo(a, divisor)
	for shift > 0 {
		step := min(shift, maxShift)
		r, _ = digits.Shift(r, step)
		_, r, _ = digits.Quo(r, divisor)
		shift -= step
	}
	return r
}
