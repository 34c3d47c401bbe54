package decimal

import (
	"math"
	"math/big"
	"math/rand"
	"strings"
	"testing"

	"datakit/api"
)

func num(t *testing.T, s string) api.Decimal {
	t.Helper()
	d, e := Parse(s)
	if e != api.OK || !Valid(d) {
		t.Fatalf("Parse(%s): %v", s, e)
	}
	return d
}

func expect(t *testing.T, what string, got api.Decimal, e api.Errno, want string, we api.Errno) {
	t.Helper()
	text := Text(got)
	if we != api.OK {
		want = "0"
	}
	if text != want || e != we || !Valid(got) {
		t.Errorf("%s: %s, %v; want %s, %v", what, text, e, want, we)
	}
}

// P2.1
func TestValidMake(t *testing.T) {
	long := strings.Repeat("1", api.MaxDigits)
	for _, c := range []struct {
		d    api.Decimal
		want bool
	}{{api.Decimal{}, true}, {api.Decimal{Neg: true}, false}, {api.Decimal{Exp: 1}, false}, {api.Decimal{Digits: "10"}, false}, {api.Decimal{Digits: "01"}, false}, {api.Decimal{Digits: "x"}, false},
		{api.Decimal{Digits: "1", Exp: 400}, true}, {api.Decimal{Digits: "1", Exp: 401}, false}, {api.Decimal{Digits: "1", Exp: -401}, false}, {api.Decimal{Neg: true, Digits: long, Exp: -400}, true}, {api.Decimal{Digits: long + "1"}, false}} {
		if Valid(c.d) != c.want {
			t.Errorf("Valid(%v)", c.d)
		}
	}
	for _, c := range []struct {
		neg    bool
		digits string
		exp    int
		want   string
		e      api.Errno
	}{{false, "0120", 3, "120000", 0}, {true, "000", math.MaxInt, "0", 0}, {true, "", math.MinInt, "0", 0}, {false, "1x", 0, "", api.ErrSyntax}, {false, "1", 401, "", api.ErrRange}, {false, "10", 400, "", api.ErrRange},
		{false, "10", -401, "1e-400", 0}, {false, "1", -401, "", api.ErrRange}, {false, "1", math.MinInt, "", api.ErrRange}, {false, "100", math.MaxInt, "", api.ErrRange}, {true, "00" + long + "00", 1, "-1." + long[1:] + "e122", 0}, {false, long + "1", 0, "", api.ErrRange}} {
		d, e := Make(c.neg, c.digits, c.exp)
		expect(t, "Make "+c.digits, d, e, c.want, c.e)
	}
}

// P2.2
func TestInts(t *testing.T) {
	for _, n := range []int{0, 1, -1, 100, math.MaxInt, math.MinInt} {
		if got, e := ToInt(FromInt(n)); got != n || e != api.OK || !Valid(FromInt(n)) {
			t.Errorf("%d: %d, %v", n, got, e)
		}
	}
	for s, want := range map[string]api.Errno{"0.5": api.ErrInexact, "9223372036854775808": api.ErrRange, "-9223372036854775809": api.ErrRange, "1e400": api.ErrRange, "1e-400": api.ErrInexact} {
		if n, e := ToInt(num(t, s)); n != 0 || e != want {
			t.Errorf("ToInt(%s): %d, %v", s, n, e)
		}
	}
	if !Whole(num(t, "0")) || !Whole(num(t, "1e3")) || Whole(num(t, "1.5")) {
		t.Error("Whole")
	}
}

// P2.3
func TestOrder(t *testing.T) {
	ordered := []string{"-1e400", "-12", "-1.5", "-1", "-1e-400", "0", "1e-400", "0.5", "0.51", "1", "1.5", "9", "10", "100", "1e400"}
	for i, a := range ordered {
		for j, b := range ordered {
			if Cmp(num(t, a), num(t, b)) != compareInts(i, j) {
				t.Errorf("Cmp(%s, %s)", a, b)
			}
		}
	}
	if Text(Neg(num(t, "1"))) != "-1" || !Valid(Neg(api.Decimal{})) || Text(Abs(num(t, "-2"))) != "2" || Text(Abs(num(t, "2"))) != "2" {
		t.Error("Neg, Abs")
	}
}

// P2.4 to P2.8
func TestOperations(t *testing.T) {
	two := func(f func(a, b api.Decimal) (api.Decimal, api.Errno)) func(a, b, want string, we api.Errno) {
		return func(a, b, want string, we api.Errno) {
			t.Helper()
			d, e := f(num(t, a), num(t, b))
			expect(t, a+" and "+b, d, e, want, we)
		}
	}
	add, sub, mul, div, mod := two(Add), two(Sub), two(Mul), two(Div), two(Mod)
	add("0.1", "0.2", "0.3", 0)
	add("1e400", "1e-400", "", api.ErrRange)
	add("1e400", "0", "1e400", 0)
	add("9e400", "1e400", "", api.ErrRange)
	add("1e119", "1", "1."+strings.Repeat("0", 118)+"1e119", 0)
	add("1e120", "1", "", api.ErrRange)
	sub("1", "1", "0", 0)
	sub("1", "2.5", "-1.5", 0)
	mul("-1.5", "2", "-3", 0)
	mul("1e300", "1e101", "", api.ErrRange)
	mul("-1", "0", "0", 0)
	div("1", "8", "0.125", 0)
	div("1", "3", "", api.ErrInexact)
	div("1", "0", "", api.ErrDivide)
	div("0", "0", "", api.ErrDivide)
	div("0", "-7", "0", 0)
	div("1e400", "1e-1", "", api.ErrRange)
	div("-6", "3", "-2", 0)
	mod("-7", "3", "2", 0)
	mod("7", "-3", "-2", 0)
	mod("7.5", "2", "1.5", 0)
	mod("1", "0", "", api.ErrDivide)
	mod("1", "1e400", "1", 0)
	mod("-1", "1e400", "", api.ErrRange)
	mod("-1e-400", "1e400", "", api.ErrRange)
	mod("0", "-1e400", "0", 0)
	mod("1e400", "7", Text(num(t, "4")), 0)
	mod("1e400", "3e-400", "1e-400", 0)
	d, e := Sum(num(t, "1"), num(t, "2"), num(t, "-0.5"))
	expect(t, "Sum", d, e, "2.5", 0)
	d, e = Sum()
	expect(t, "Sum", d, e, "0", 0)
	d, e = Sum(num(t, "1e400"), num(t, "9e400"), num(t, "-9e400"))
	expect(t, "Sum", d, e, "", api.ErrRange)
}

func TestRounding(t *testing.T) {
	for _, c := range []struct {
		a, b         string
		places, mode int
		want         string
		e            api.Errno
	}{
		{"2", "3", 2, api.RoundHalfUp, "0.67", 0}, {"2.5", "1", 0, api.RoundEven, "2", 0}, {"3.5", "1", 0, api.RoundEven, "4", 0}, {"-2.5", "1", 0, api.RoundHalfUp, "-3", 0}, {"1234", "1", -2, api.RoundDown, "1200", 0},
		{"-1234", "1", -2, api.RoundDown, "-1300", 0}, {"-1234", "1", -2, api.RoundUp, "-1200", 0}, {"-1299", "1", -2, api.RoundZero, "-1200", 0}, {"1201", "1", -2, api.RoundUp, "1300", 0}, {"0", "-1", 0, api.RoundUp, "0", 0},
		{"1", "1", 401, 0, "", api.ErrArg}, {"1", "1", -401, 0, "", api.ErrArg}, {"1", "0", 0, 5, "", api.ErrArg}, {"1", "0", 0, -1, "", api.ErrArg}, {"1", "0", 0, 0, "", api.ErrDivide},
		{"1", "3", 400, 0, "", api.ErrRange}, {"1", "3", 120, 0, "0." + strings.Repeat("3", 120), 0}, {"1", "3", 121, 0, "", api.ErrRange}, {"1e400", "1", 400, 0, "1e400", 0}, {"1e400", "3", 400, 0, "", api.ErrRange},
		{"1e-400", "1e400", -400, api.RoundUp, "1e400", 0}, {"-1e-400", "1e400", -400, api.RoundUp, "0", 0}, {"-1e-400", "1e400", -400, api.RoundDown, "-1e400", 0}, {"1e-400", "1e400", -400, api.RoundHalfUp, "0", 0},
		{"0.5", "1", 0, api.RoundHalfUp, "1", 0}, {"0.5", "1", 0, api.RoundEven, "0", 0}, {"-0.5", "1", 0, api.RoundEven, "0", 0}, {"2.4", "1", 0, api.RoundEven, "2", 0}, {"2.6", "1", 0, api.RoundEven, "3", 0}} {
		d, e := Quo(num(t, c.a), num(t, c.b), c.places, c.mode)
		expect(t, "Quo "+c.a+" "+c.b, d, e, c.want, c.e)
	}
	d, e := Round(num(t, "2.5"), 0, api.RoundEven)
	expect(t, "Round", d, e, "2", 0)
}

// P2.9, P2.10
func TestTexts(t *testing.T) {
	for s, want := range map[string]string{"0": "0", "-0.0e7": "0", "1e20": "100000000000000000000", "1e21": "1e21", "0.000001": "0.000001", "0.0000001": "1e-7", "-0.50": "-0.5", "123.45": "123.45", "1.5E+3": "1500", "12e21": "1.2e22",
		"123456789012345678901.5": "123456789012345678901.5", "1234567890123456789012.5": "1.2345678901234567890125e21", "0.00000123": "0.00000123", "0.000000123": "1.23e-7", "0e999999999999999999999": "0", "10e-401": "1e-400"} {
		d := num(t, s)
		if Text(d) != want {
			t.Errorf("Text(%s): %s", s, Text(d))
		}
		if num(t, want) != d {
			t.Errorf("Parse(%s)", want)
		}
	}
	for s, want := range map[string]api.Errno{"": 3, "-": 3, "01": 3, "+1": 3, ".5": 3, "1.": 3, "1e": 3, "1e+": 3, "1x": 3, " 1": 3, "1 ": 3, "--1": 3, "1.e2": 3, "1e1.5": 3, "NaN": 3, "1e401": 2, "1e99999999999999999999999999": 2, "1e-99999999999999999999999": 2, "1.1e-400": 2} {
		if d, e := Parse(s); e != want || d != (api.Decimal{}) {
			t.Errorf("Parse(%q): %v", s, e)
		}
	}
	if d, e := Parse("0." + strings.Repeat("0", 1000) + "1e1001"); Text(d) != "1" || e != api.OK {
		t.Error("a far exponent that the digits bring back")
	}
}

func rat(d api.Decimal) *big.Rat {
	r, _ := new(big.Rat).SetString(d.Digits + "0e" + big.NewInt(int64(d.Exp-1)).String())
	if d.Digits == "" {
		return new(big.Rat)
	}
	if d.Neg {
		r.Neg(r)
	}
	return r
}

// P2.11, P2.12, against another implementation
func TestAgainstRat(t *testing.T) {
	rnd := rand.New(rand.NewSource(2))
	number := func() api.Decimal {
		n := ""
		for range rnd.Intn(12) {
			n += string(rune('0' + rnd.Intn(10)))
		}
		d, _ := Make(rnd.Intn(2) == 0, n, rnd.Intn(16)-8)
		return d
	}
	for range 2000 {
		a, b := number(), number()
		sum, _ := Add(a, b)
		product, _ := Mul(a, b)
		if rat(sum).Cmp(new(big.Rat).Add(rat(a), rat(b))) != 0 || rat(product).Cmp(new(big.Rat).Mul(rat(a), rat(b))) != 0 || Cmp(a, b) != rat(a).Cmp(rat(b)) {
			t.Fatalf("%s %s", Text(a), Text(b))
		}
		if back, _ := Sub(sum, b); back != a {
			t.Fatalf("Sub does not undo Add: %s %s", Text(a), Text(b))
		}
		if b.Digits == "" {
			continue
		}
		quotient := new(big.Rat).Quo(rat(a), rat(b))
		if q, e := Div(a, b); e == api.OK && rat(q).Cmp(quotient) != 0 {
			t.Fatalf("Div %s %s", Text(a), Text(b))
		}
		q, e := Quo(a, b, 3, rnd.Intn(5))
		off := new(big.Rat).Sub(rat(q), quotient)
		if e != api.OK || off.Abs(off).Cmp(big.NewRat(1, 1000)) >= 0 {
			t.Fatalf("Quo %s %s", Text(a), Text(b))
		}
		m, e := Mod(a, b)
		back, _ := Quo(a, b, 0, api.RoundDown)
		back, _ = Mul(back, b)
		back, _ = Add(back, m)
		if e != api.OK || back != a || m.Digits != "" && m.Neg != b.Neg {
			t.Fatalf("Mod %s %s: %s %v", Text(a), Text(b), Text(m), e)
		}
	}
}

// R1: no argument leads to a panic.
func TestAnyArguments(t *testing.T) {
	odd := []api.Decimal{{Digits: "x", Exp: math.MaxInt}, {Neg: true}, {Digits: "0", Exp: math.MinInt}, {Digits: "1", Exp: math.MaxInt}, {Digits: "1"}}
	for _, a := range odd {
		Text(a)
		ToInt(a)
		Whole(a)
		Neg(a)
		Abs(a)
		for _, b := range odd {
			Add(a, b)
			Sub(a, b)
			Mul(a, b)
			Div(a, b)
			Mod(a, b)
			Cmp(a, b)
			Sum(a, b)
			Quo(a, b, 400, 0)
			Round(a, -400, 1)
		}
	}
}
