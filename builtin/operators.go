package builtin

import (
	"strings"

	"datakit/api"
	"datakit/decimal"
	"datakit/utf"
	"datakit/value"
)

// Arith applies an arithmetic operator.
func Arith(op string, a, b api.Value) (api.Value, api.Errno) {
	switch op {
	case "+":
		return sum([]api.Value{a, b})
	case "-":
		return minus(a, b)
	case "*", "/", "%":
		if a.Kind == api.VText && b.Kind == api.VText && op == "/" {
			return split(a.Text, b.Text)
		}
		if a.Kind != api.VNum || b.Kind != api.VNum {
			return api.Value{}, api.ErrKind
		}
		return number(arithNumbers(op, a.Num, b.Num))
	}
	return api.Value{}, api.ErrArg
}

// number returns a number as a value.
func number(d api.Decimal, err api.Errno) (api.Value, api.Errno) {
	if err != api.OK {
		return api.Value{}, err
	}
	return value.Num(d), api.OK
}

func arithNumbers(op string, a, b api.Decimal) (api.Decimal, api.Errno) {
	switch op {
	case "*":
		return decimal.Mul(a, b)
	case "/":
		return decimal.Div(a, b)
	}
	if !decimal.Whole(a) || !decimal.Whole(b) {
		return api.Decimal{}, api.ErrInexact
	}
	return decimal.Mod(a, b)
}

func minus(a, b api.Value) (api.Value, api.Errno) {
	switch {
	case a.Kind == api.VNum && b.Kind == api.VNum:
		return number(decimal.Sub(a.Num, b.Num))
	case a.Kind == api.VList && b.Kind == api.VList:
		in := finder(b.List)
		var out []api.Value
		for _, v := range a.List {
			if !in(v) {
				out = append(out, v)
			}
		}
		return list(out)
	}
	return api.Value{}, api.ErrKind
}

// split returns the parts of a string between the occurrences of another one;
// those between the empty string are the characters.
func split(s, by string) (api.Value, api.Errno) {
	var out []api.Value
	for _, part := range strings.Split(s, by) {
		out = append(out, value.Text(part))
	}
	return list(out)
}

// Compare compares two values.
func Compare(op string, a, b api.Value) (bool, api.Errno) {
	c := value.Cmp(a, b)
	switch op {
	case "==":
		return c == 0, api.OK
	case "!=":
		return c != 0, api.OK
	case "<":
		return c < 0, api.OK
	case "<=":
		return c <= 0, api.OK
	case ">":
		return c > 0, api.OK
	case ">=":
		return c >= 0, api.OK
	}
	return false, api.ErrArg
}

// Neg negates a number.
func Neg(a api.Value) (api.Value, api.Errno) {
	if a.Kind != api.VNum {
		return api.Value{}, api.ErrKind
	}
	return value.Num(decimal.Neg(a.Num)), api.OK
}

// Index returns an element or a field.
func Index(v, i api.Value) (api.Value, api.Errno) {
	if i.Kind == api.VText && (v.Kind == api.VMap || v.Kind == api.VNull) {
		x, _ := value.Field(v, i.Text)
		return value.Copy(x), api.OK
	}
	if i.Kind != api.VNum || v.Kind != api.VList && v.Kind != api.VNull {
		return api.Value{}, api.ErrKind
	}
	if !decimal.Whole(i.Num) {
		return api.Value{}, api.ErrInexact
	}
	n, err := decimal.ToInt(i.Num)
	if n < 0 {
		n += len(v.List)
	}
	if err != api.OK || n < 0 || n >= len(v.List) {
		return api.Value{}, api.OK
	}
	return value.Copy(v.List[n]), api.OK
}

// Slice returns a part of a list or a string.
func Slice(v, from, to api.Value) (api.Value, api.Errno) {
	if v.Kind != api.VNull && v.Kind != api.VText && v.Kind != api.VList {
		return api.Value{}, api.ErrKind
	}
	for _, bound := range [...]api.Value{from, to} {
		if bound.Kind != api.VNull && bound.Kind != api.VNum {
			return api.Value{}, api.ErrKind
		}
		if !decimal.Whole(bound.Num) {
			return api.Value{}, api.ErrInexact
		}
	}
	if v.Kind == api.VNull {
		return api.Value{}, api.OK
	}
	n := len(v.List)
	if v.Kind == api.VText {
		n, _ = utf.Len(v.Text)
	}
	lo, hi := bound(from, n, 0), bound(to, n, n)
	if lo >= hi {
		lo, hi = 0, 0
	}
	if v.Kind == api.VText {
		s, err := utf.Slice(v.Text, lo, hi)
		if err != api.OK {
			return api.Value{}, err
		}
		return value.Text(s), api.OK
	}
	return value.List(v.List[lo:hi]...), api.OK
}

// bound returns the place of a bound among n elements.
func bound(v api.Value, n, without int) int {
	if v.Kind == api.VNull {
		return without
	}
	i, err := decimal.ToInt(v.Num)
	if err != api.OK {
		if v.Num.Neg {
			return 0
		}
		return n
	}
	if i < 0 {
		i += n
	}
	return min(max(i, 0), n)
}

// Each returns the elements of a list or the values of a map.
func Each(v api.Value) ([]api.Value, api.Errno) {
	switch v.Kind {
	case api.VList:
		return value.Copy(v).List, api.OK
	case api.VMap:
		return fieldValues(value.Copy(v)), api.OK
	}
	return nil, api.ErrKind
}
