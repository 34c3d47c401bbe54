package numset

import (
	"math/big"
	"math/rand"
	"reflect"
	"strings"
	"testing"

	"datakit/api"
	"datakit/decimal"
)

func dec(s string) api.Decimal {
	neg := strings.HasPrefix(s, "-")
	s = strings.TrimPrefix(s, "-")
	exp := 0
	if i := strings.Index(s, "e"); i >= 0 {
		for _, c := range strings.TrimPrefix(s[i+1:], "-") {
			exp = exp*10 + int(c-'0')
		}
		if s[i+1] == '-' {
			exp = -exp
		}
		s = s[:i]
	}
	d, err := decimal.Make(neg, s, exp)
	if err != api.OK {
		panic(s)
	}
	return d
}

func at(s string) api.Bound   { return api.Bound{Set: true, Num: dec(s)} }
func open(s string) api.Bound { return api.Bound{Set: true, Num: dec(s), Open: true} }

func of(lo, hi api.Bound, sort int) api.NumSet {
	s, err := Of(lo, hi, sort)
	if err != api.OK {
		panic(err)
	}
	return s
}

// P18.1, P18.2
func TestValidHas(t *testing.T) {
	s := of(open("0"), at("2"), api.NumWhole)
	for text, want := range map[string]bool{"0": false, "1": true, "2": true, "3": false, "1.5e0"[:1] + "5e-1": false, "-1": false} {
		if Has(s, dec(text)) != want {
			t.Error(text)
		}
	}
	not, _ := Not(s)
	if !Has(not, dec("0")) || !Has(not, dec("15e-1")) || Has(not, dec("2")) {
		t.Error("Not")
	}
	f := of(at("0"), open("2"), api.NumFract)
	if Has(f, dec("1")) || !Has(f, dec("15e-1")) || Has(f, dec("2")) {
		t.Error("NumFract")
	}
	if !Has(All(), dec("-5e400")) || Has(None(), dec("0")) || !reflect.DeepEqual(All(), api.NumSet{Parts: []api.Part{{}}}) || len(None().Parts) != 0 {
		t.Error("All, None")
	}
	crossed := of(at("2"), at("1"), api.NumAll)
	if Has(crossed, dec("1")) || !Empty(crossed) {
		t.Error("crossed bounds")
	}
	bad := []api.NumSet{
		{Parts: make([]api.Part, api.MaxParts+1)},
		{Parts: []api.Part{{Sort: 3}}}, {Parts: []api.Part{{Sort: -1}}},
		{Parts: []api.Part{{Lo: api.Bound{Open: true}}}},
		{Parts: []api.Part{{Hi: api.Bound{Num: dec("1")}}}},
		{Parts: []api.Part{{}, {Hi: api.Bound{Set: true, Num: api.Decimal{Digits: "10"}}}}},
		{Parts: []api.Part{{Lo: api.Bound{Set: true, Num: api.Decimal{Digits: "1", Exp: 401}}}}},
	}
	for _, b := range bad {
		if Valid(b) || Has(b, dec("0")) || !Empty(b) {
			t.Error(b)
		}
		if d, ok := Pick(b); ok || d != (api.Decimal{}) {
			t.Error("Pick")
		}
		for _, f := range []func(a, b api.NumSet) (api.NumSet, api.Errno){And, Or, func(a, b api.NumSet) (api.NumSet, api.Errno) {
			if Valid(a) {
				a = b
			}
			return Not(a)
		}} {
			for _, args := range [][2]api.NumSet{{b, All()}, {All(), b}} {
				if s, err := f(args[0], args[1]); err != api.ErrArg || s.Parts != nil {
					t.Error(err)
				}
				if same, err := Equal(args[0], args[1]); err != api.ErrArg || same {
					t.Error(err)
				}
			}
		}
	}
	if Has(All(), api.Decimal{Digits: "0"}) {
		t.Error("a decimal that is not valid")
	}
	if !Valid(api.NumSet{Parts: make([]api.Part, api.MaxParts)}) {
		t.Error("MaxParts")
	}
}

// P18.3
func TestOfPoints(t *testing.T) {
	s, err := Of(open("1"), api.Bound{}, api.NumFract)
	if err != api.OK || !reflect.DeepEqual(s, api.NumSet{Parts: []api.Part{{Lo: open("1"), Sort: api.NumFract}}}) {
		t.Error(s)
	}
	for _, b := range []api.Bound{{Open: true}, {Num: dec("1")}, {Set: true, Num: api.Decimal{Neg: true}}} {
		if s, err := Of(b, api.Bound{}, 0); err != api.ErrArg || s.Parts != nil {
			t.Error(err)
		}
		if s, err := Of(api.Bound{}, b, 0); err != api.ErrArg || s.Parts != nil {
			t.Error(err)
		}
	}
	if _, err := Of(api.Bound{}, api.Bound{}, 3); err != api.ErrArg {
		t.Error(err)
	}
	p, err := Points(dec("3"), dec("1"), dec("3"))
	if err != api.OK || !reflect.DeepEqual(p.Parts, []api.Part{{Lo: at("3"), Hi: at("3")}, {Lo: at("1"), Hi: at("1")}, {Lo: at("3"), Hi: at("3")}}) {
		t.Error(p)
	}
	if p, err := Points(); err != api.OK || len(p.Parts) != 0 {
		t.Error(p)
	}
	many := make([]api.Decimal, api.MaxParts+1)
	if p, err := Points(many[1:]...); err != api.OK || len(p.Parts) != api.MaxParts {
		t.Error(err)
	}
	if p, err := Points(many...); err != api.ErrLimit || p.Parts != nil {
		t.Error(err)
	}
	many[256].Neg = true
	if _, err := Points(many...); err != api.ErrArg {
		t.Error(err)
	}
}

func randomSet(r *rand.Rand, parts int) api.NumSet {
	nums := []string{"-3", "-15e-1", "-1", "0", "1e-400", "5e-1", "1", "15e-1", "2", "3"}
	bound := func() api.Bound {
		if r.Intn(4) == 0 {
			return api.Bound{}
		}
		return api.Bound{Set: true, Num: dec(nums[r.Intn(len(nums))]), Open: r.Intn(2) == 0}
	}
	s := api.NumSet{}
	for range parts {
		s.Parts = append(s.Parts, api.Part{Lo: bound(), Hi: bound(), Sort: r.Intn(3)})
	}
	return s
}

// P18.4 to P18.7
func TestAlgebra(t *testing.T) {
	probes := strings.Fields("-4e400 -4 -35e-1 -3 -25e-1 -2 -15e-1 -12e-1 -1 -5e-1 -1e-400 0 1e-400 2e-400 3e-1 5e-1 7e-1 1 12e-1 15e-1 17e-1 2 25e-1 3 35e-1 4 4e400")
	r := rand.New(rand.NewSource(1))
	for range 2000 {
		a, b := randomSet(r, r.Intn(5)), randomSet(r, r.Intn(5))
		not, e1 := Not(a)
		and, e2 := And(a, b)
		or, e3 := Or(a, b)
		if e1 != api.OK || e2 != api.OK || e3 != api.OK || !Valid(not) || !Valid(and) || !Valid(or) {
			t.Fatal("an error")
		}
		n := len(a.Parts) + len(b.Parts)
		if len(not.Parts) > 2*len(a.Parts)+2 || len(and.Parts) > 2*n+2 || len(or.Parts) > 2*n+2 {
			t.Fatal("too many parts")
		}
		same, empty := true, true
		for _, probe := range probes {
			d := dec(probe)
			x, y := Has(a, d), Has(b, d)
			if Has(not, d) == x || Has(and, d) != (x && y) || Has(or, d) != (x || y) {
				t.Fatalf("%v %v: %v", a, b, probe)
			}
			same, empty = same && x == y, empty && !x
		}
		if got, err := Equal(a, b); err != api.OK || got != same {
			t.Fatalf("Equal(%v, %v) = %v", a, b, got)
		}
		if Empty(a) != empty {
			t.Fatalf("Empty(%v)", a)
		}
		if d, ok := Pick(a); ok == empty || ok && !Has(a, d) {
			t.Fatalf("Pick(%v) = %v", a, d)
		}
		none, _ := And(a, not)
		all, _ := Or(a, not)
		back, _ := Not(not)
		if eq, _ := Equal(all, All()); !eq || !Empty(none) {
			t.Fatal("complement")
		}
		if eq, _ := Equal(back, a); !eq {
			t.Fatal("double complement")
		}
	}
}

// P18.4: many parts
func TestManyParts(t *testing.T) {
	var l []api.Decimal
	for i := range 127 {
		l = append(l, decimal.FromInt(2*i))
	}
	a, _ := Points(l...)
	not, err := Not(a)
	if err != api.OK || !Valid(not) || len(not.Parts) != 128 || Has(not, dec("4")) || !Has(not, dec("5")) {
		t.Error(err)
	}
	half, _ := Points(l[:60]...)
	and, err := And(half, a)
	if err == api.OK && (!Valid(and) || !Has(and, dec("118")) || Has(and, dec("120"))) {
		t.Error("And")
	}
	big := randomSet(rand.New(rand.NewSource(4)), 256)
	for i := range big.Parts {
		big.Parts[i] = api.Part{Lo: api.Bound{Set: true, Num: decimal.FromInt(10 * i)}, Hi: api.Bound{Set: true, Num: decimal.FromInt(10*i + 5)}, Sort: 1 + i%2}
	}
	if s, err := Not(big); err != api.ErrLimit || s.Parts != nil {
		t.Error(err, len(s.Parts))
	}
}

func rat(d api.Decimal) *big.Rat {
	n, _ := new(big.Int).SetString("0"+d.Digits, 10)
	x := new(big.Rat).SetInt(n)
	p := new(big.Rat).SetInt(new(big.Int).Exp(big.NewInt(10), big.NewInt(int64(max(d.Exp, -d.Exp))), nil))
	if d.Exp < 0 {
		x.Quo(x, p)
	} else {
		x.Mul(x, p)
	}
	if d.Neg {
		x.Neg(x)
	}
	return x
}

func nines(n int) string { return strings.Repeat("9", n) }

// P18.5: what is next to a number
func TestNext(t *testing.T) {
	tests := []struct {
		from string
		sort int
		want string
	}{
		{"0", 0, "1e-400"}, {"0", 1, "1"}, {"0", 2, "1e-400"},
		{"-1e-400", 0, "0"}, {"-1e-400", 1, "0"}, {"-1e-400", 2, "1e-400"}, {"-2e-400", 2, "-1e-400"},
		{"1", 0, "1" + strings.Repeat("0", 118) + "1e-119"}, {"1", 1, "2"}, {"5e-1", 1, "1"}, {"-5e-1", 1, "0"}, {"-15e-1", 1, "-1"}, {"-1", 1, "0"}, {"-10", 1, "-9"}, {"99", 1, "100"}, {"-100", 1, "-99"},
		{"-1", 0, "-" + nines(120) + "e-120"}, {"-1", 2, "-" + nines(120) + "e-120"},
		{nines(120), 0, "1e120"}, {nines(120), 1, "1e120"}, {nines(119), 2, nines(119) + "1e-1"},
		{nines(120) + "e-1", 2, ""}, {nines(120) + "e-1", 1, "1e119"}, {"1e119", 2, ""}, {"5e300", 2, ""},
		{"1e120", 1, "1" + strings.Repeat("0", 118) + "1e1"}, {"1e120", 0, "1" + strings.Repeat("0", 118) + "1e1"},
		{"-1e120", 1, "-" + nines(120)}, {"-1e130", 2, "-" + nines(120) + "e-1"}, {"-1e119", 2, "-" + nines(120) + "e-1"}, {"-5e119", 2, "-" + nines(120) + "e-1"},
		{nines(120) + "e281", 0, "1" + strings.Repeat("0", 118) + "1e282"}, {"-1" + strings.Repeat("0", 118) + "1e282", 0, "-" + nines(120) + "e281"},
		{nines(120) + "e400", 0, ""}, {nines(119) + "8e400", 0, nines(120) + "e400"}, {nines(118) + "89e400", 1, nines(118) + "91e400"},
	}
	for _, test := range tests {
		d, ok := nextOfSort(dec(test.from), test.sort)
		if ok != (test.want != "") || ok && d != dec(test.want) {
			t.Errorf("next of %s, sort %d: %v, not %s", test.from, test.sort, d, test.want)
		}
	}
}

func randomDecimal(r *rand.Rand) api.Decimal {
	n := []int{1, 2, 5, 118, 119, 120}[r.Intn(6)]
	digits := []byte{byte('1' + r.Intn(9))}
	for len(digits) < n {
		digits = append(digits, []byte("0199")[r.Intn(4)])
	}
	exp := []int{-400, -399, -281, -120, -119, -118, -1, 0, 1, 2, 119, 120, 280, 281, 282, 399, 400}[r.Intn(17)]
	d, err := decimal.Make(r.Intn(2) == 0, string(digits), exp)
	if err != api.OK {
		return dec("1")
	}
	return d
}

// P18.5: nothing lies between a number and the next one
func TestNextIsNext(t *testing.T) {
	r := rand.New(rand.NewSource(3))
	for range 5000 {
		d := randomDecimal(r)
		for sort := range 3 {
			next, ok := nextOfSort(d, sort)
			if !ok {
				continue
			}
			if !decimal.Valid(next) || !ofSort(next, sort) || decimal.Cmp(d, next) >= 0 {
				t.Fatalf("next of %v: %v", d, next)
			}
			back, ok := nextOfSort(decimal.Neg(next), sort)
			if ofSort(d, sort) && (!ok || decimal.Neg(back) != d) {
				t.Fatalf("next of %v: %v, but back to %v", d, next, back)
			}
			if sort == api.NumAll {
				gap := new(big.Rat).Sub(rat(next), rat(d))
				m := max(len(d.Digits)+d.Exp, len(next.Digits)+next.Exp)
				unit := rat(api.Decimal{Digits: "1", Exp: max(m-120, -400)})
				if gap.Cmp(new(big.Rat).Mul(unit, big.NewRat(2, 1))) > 0 {
					t.Fatalf("between %v and %v", d, next)
				}
			}
			s := of(api.Bound{Set: true, Num: d, Open: true}, api.Bound{Set: true, Num: next, Open: true}, sort)
			if !Empty(s) {
				t.Fatal("not empty")
			}
			s.Parts[0].Hi.Open = false
			if p, ok := Pick(s); !ok || p != next {
				t.Fatal("empty")
			}
		}
	}
}

// P18.5: examples 2 and 3, and bounds on one side
func TestPick(t *testing.T) {
	empty := []api.NumSet{
		of(open("1"), open("1"+strings.Repeat("0", 118)+"1e-119"), 0), of(open("0"), open("1"), 1), of(at("1e120"), api.Bound{}, 2),
		of(api.Bound{}, at("-1e120"), 2), of(open(nines(120)+"e400"), api.Bound{}, 0), of(api.Bound{}, open("-"+nines(120)+"e400"), 0),
		of(at("1"), at("1"), 2), of(at("5e-1"), at("5e-1"), 1), of(open("1"), at("1"), 0), None(),
	}
	for _, s := range empty {
		if !Empty(s) {
			t.Error(s)
		}
	}
	full := []api.NumSet{
		of(open("1e130"), api.Bound{}, 1), of(api.Bound{}, api.Bound{}, 2), of(api.Bound{}, api.Bound{}, 1), of(api.Bound{}, at("-3"), 2), of(api.Bound{}, open("-3"), 1),
		of(at(nines(120)+"e400"), api.Bound{}, 1), of(open("1"), open("2"), 2), of(at("1"), at("1"), 1), of(api.Bound{}, at("-1e118"), 2),
	}
	for _, s := range full {
		if d, ok := Pick(s); !ok || !Has(s, d) || !decimal.Valid(d) {
			t.Error(s, d)
		}
	}
}
