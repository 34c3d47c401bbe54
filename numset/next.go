package numset

import (
	"strings"

	"datakit/api"
	"datakit/decimal"
)

// pickPart returns a number of a part: the one next to an end of it.
func pickPart(p api.Part) (api.Decimal, bool) {
	if !p.Lo.Set && p.Hi.Set {
		d, ok := pickPart(api.Part{Lo: mirrored(p.Hi), Sort: p.Sort})
		return decimal.Neg(d), ok
	}
	if !p.Lo.Set {
		if p.Sort == api.NumFract {
			return api.Decimal{Digits: "5", Exp: -1}, true
		}
		return api.Decimal{}, true
	}
	d, ok := p.Lo.Num, true
	if p.Lo.Open || !ofSort(d, p.Sort) {
		d, ok = nextOfSort(d, p.Sort)
	}
	if !ok || !belowHi(d, p.Hi) {
		return api.Decimal{}, false
	}
	return d, true
}

func mirrored(b api.Bound) api.Bound {
	b.Num = decimal.Neg(b.Num)
	return b
}

// maxPlace is above the exponent of ten of every number, and maxFract above
// that of every number that is not an integer.
const (
	maxPlace = api.MaxExp + api.MaxDigits
	maxFract = api.MaxDigits - 1
)

// figure is the number digits * 10^exp, which is not negative; the digits may
// end with zeros, and exp may be too large for a decimal.
type figure struct {
	digits string
	exp    int
}

// place returns the exponent of the least power of ten above a figure.
func (f figure) place() int { return len(f.digits) + f.exp }

// nextOfSort returns the least number of a sort above a number.
func nextOfSort(d api.Decimal, sort int) (api.Decimal, bool) {
	for d.Neg {
		next, ok := towardZero(d, sort)
		if ok {
			return next, true
		}
		d = next
	}
	f := figure{d.Digits, d.Exp}
	for {
		unit := unitOf(f.place(), sort)
		if f.digits == "" {
			unit = unitOf(-api.MaxExp, sort)
		}
		f = raised(f, unit)
		if f.place() > maxPlace || sort == api.NumFract && f.place() > maxFract {
			return api.Decimal{}, false
		}
		next, err := decimal.Make(false, f.digits, f.exp)
		if err == api.OK && ofSort(next, sort) {
			return next, true
		}
	}
}

// towardZero returns the number next to a negative one, and whether it has the
// sort. A number that has too many zeros at its end is passed over.
func towardZero(d api.Decimal, sort int) (api.Decimal, bool) {
	f := figure{d.Digits, d.Exp}
	for {
		place := f.place()
		if strings.Trim(f.digits[1:], "0") == "" && f.digits[0] == '1' {
			place--
		}
		if sort == api.NumFract && place > maxFract {
			f, place = figure{"1", maxFract}, maxFract
		}
		f = lowered(f, unitOf(place, sort))
		next, err := decimal.Make(true, f.digits, f.exp)
		if err == api.OK {
			return next, ofSort(next, sort)
		}
	}
}

// unitOf returns the exponent of the last digit of numbers with this place.
func unitOf(place, sort int) int {
	least := -api.MaxExp
	if sort == api.NumWhole {
		least = 0
	}
	return max(place-api.MaxDigits, least)
}

// raised returns the least multiple of 10^unit above a figure.
func raised(f figure, unit int) figure {
	digits := []byte(multiple(f, unit))
	for i := len(digits) - 1; i >= 0; i-- {
		if digits[i] < '9' {
			digits[i]++
			return figure{strings.TrimLeft(string(digits), "0"), unit}
		}
		digits[i] = '0'
	}
	return figure{"1" + string(digits), unit}
}

// lowered returns the greatest multiple of 10^unit below a figure above 0.
func lowered(f figure, unit int) figure {
	digits := []byte(multiple(f, unit))
	if f.exp < unit && strings.Trim(f.digits[len(digits):], "0") != "" {
		return figure{strings.TrimLeft(string(digits), "0"), unit}
	}
	for i := len(digits) - 1; i >= 0; i-- {
		if digits[i] > '0' {
			digits[i]--
			break
		}
		digits[i] = '9'
	}
	return figure{strings.TrimLeft(string(digits), "0"), unit}
}

// multiple returns the digits of a figure down to 10^unit.
func multiple(f figure, unit int) string {
	if f.exp >= unit {
		return f.digits + strings.Repeat("0", f.exp-unit)
	}
	return f.digits[:max(f.place()-unit, 0)]
}
