package digits

import (
	"math"
	"math/big"
	"math/rand"
	"strings"
	"testing"

	"datakit/api"
)

func expect(t *testing.T, what, got string, e api.Errno, want string, we api.Errno) {
	t.Helper()
	if got != want || e != we {
		t.Errorf("%s: %q, %v; want %q, %v", what, got, e, want, we)
	}
}

// P1.1
func TestValidTrim(t *testing.T) {
	long := strings.Repeat("9", api.MaxNumeral)
	for s, want := range map[string]bool{"": true, "0": false, "07": false, "7": true, "10": true, "1a": false, "-1": false, long: true, long + "9": false} {
		if Valid(s) != want {
			t.Errorf("Valid(%q)", s)
		}
	}
	for _, c := range []struct {
		s, want string
		e       api.Errno
	}{{"007", "7", 0}, {"", "", 0}, {"00", "", 0}, {"1x", "", api.ErrSyntax}, {"000" + long, long, 0}, {"1" + long, "", api.ErrRange}, {"x" + long + "9", "", api.ErrSyntax}} {
		got, e := Trim(c.s)
		expect(t, "Trim "+c.s, got, e, c.want, c.e)
	}
}

// P1.2
func TestInts(t *testing.T) {
	for n, want := range map[int]string{0: "", -1: "", math.MinInt: "", 7: "7", math.MaxInt: "9223372036854775807"} {
		if FromInt(n) != want {
			t.Errorf("FromInt(%d)", n)
		}
	}
	for _, c := range []struct {
		s string
		n int
		e api.Errno
	}{{"", 0, 0}, {"12", 12, 0}, {"9223372036854775807", math.MaxInt, 0}, {"9223372036854775808", 0, api.ErrRange}, {"10000000000000000000", 0, api.ErrRange}, {"01", 0, api.ErrSyntax}, {"x", 0, api.ErrSyntax}} {
		if n, e := ToInt(c.s); n != c.n || e != c.e {
			t.Errorf("ToInt(%q): %d, %v", c.s, n, e)
		}
	}
}

// P1.3, P1.4, P1.6 and the examples
func TestArithmetic(t *testing.T) {
	nines := strings.Repeat("9", api.MaxNumeral)
	if Cmp("", "1") != -1 || Cmp("9", "10") != -1 || Cmp("12", "12") != 0 || Cmp("13", "12") != 1 {
		t.Error("Cmp")
	}
	s, e := Add("999", "1")
	expect(t, "Add", s, e, "1000", 0)
	s, e = Add(nines, "1")
	expect(t, "Add", s, e, "", api.ErrRange)
	s, e = Add("", "")
	expect(t, "Add", s, e, "", 0)
	s, e = Mul("12", "12")
	expect(t, "Mul", s, e, "144", 0)
	s, e = Mul(nines, "2")
	expect(t, "Mul", s, e, "", api.ErrRange)
	s, e = Mul(nines, "1")
	expect(t, "Mul", s, e, nines, 0)
	s, e = Mul(nines, "")
	expect(t, "Mul", s, e, "", 0)
	s, e = Sub("1", "2")
	expect(t, "Sub", s, e, "", api.ErrRange)
	s, e = Sub("1000", "999")
	expect(t, "Sub", s, e, "1", 0)
	for _, c := range []struct {
		a    string
		n    int
		want string
		e    api.Errno
	}{{"123", -2, "1", 0}, {"123", 2, "12300", 0}, {"123", -3, "", 0}, {"123", math.MinInt, "", 0}, {"", math.MaxInt, "", 0}, {"1", math.MaxInt, "", api.ErrRange}, {"1", 599, "1" + strings.Repeat("0", 599), 0}, {"1", 600, "", api.ErrRange}} {
		s, e := Shift(c.a, c.n)
		expect(t, "Shift", s, e, c.want, c.e)
	}
	if Zeros("12300") != 2 || Zeros("") != 0 || Zeros("1") != 0 {
		t.Error("Zeros")
	}
}

// P1.5
func TestQuo(t *testing.T) {
	q, r, e := Quo("100", "7")
	if q != "14" || r != "2" || e != api.OK {
		t.Errorf("Quo: %s %s %v", q, r, e)
	}
	if q, r, e := Quo("1", ""); q != "" || r != "" || e != api.ErrDivide {
		t.Errorf("Quo by zero: %s %s %v", q, r, e)
	}
	if q, r, e := Quo("", "7"); q != "" || r != "" || e != api.OK {
		t.Errorf("Quo of zero: %s %s %v", q, r, e)
	}
}

func text(b *big.Int) string {
	if b.Sign() == 0 {
		return ""
	}
	return b.String()
}

// P1.7, against another implementation
func TestAgainstBig(t *testing.T) {
	rnd := rand.New(rand.NewSource(1))
	number := func() *big.Int {
		return new(big.Int).Rand(rnd, new(big.Int).Exp(big.NewInt(10), big.NewInt(int64(rnd.Intn(300))), nil))
	}
	for range 300 {
		a, b := number(), number()
		s, e := Add(text(a), text(b))
		expect(t, "Add", s, e, text(new(big.Int).Add(a, b)), 0)
		if back, e := Sub(s, text(b)); back != text(a) || e != api.OK {
			t.Error("Sub does not undo Add")
		}
		s, e = Mul(text(a), text(b))
		expect(t, "Mul", s, e, text(new(big.Int).Mul(a, b)), 0)
		if b.Sign() == 0 {
			continue
		}
		wq, wr := new(big.Int).QuoRem(a, b, new(big.Int))
		q, r, e := Quo(text(a), text(b))
		if q != text(wq) || r != text(wr) || e != api.OK || Cmp(r, text(b)) >= 0 {
			t.Error("Quo")
		}
	}
}

// R1: no argument leads to a panic.
func TestAnyArguments(t *testing.T) {
	for _, a := range []string{"-", "00", "\xff", "1 2"} {
		for _, b := range []string{"", "1", "0", "x"} {
			Add(a, b)
			Add(b, a)
			Sub(a, b)
			Mul(b, a)
			Quo(a, b)
			Quo(b, a)
			Cmp(a, b)
			Shift(a, 3)
			Zeros(a)
		}
	}
}
