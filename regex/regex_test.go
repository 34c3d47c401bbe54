package regex

import (
	"math/rand"
	"reflect"
	"strings"
	"testing"

	"datakit/api"
)

func rng(lo, hi int) api.Pattern { return api.Pattern{Op: api.RxRange, Lo: lo, Hi: hi} }
func one(c byte) api.Pattern     { return rng(int(c), int(c)) }
func op(o int, args ...api.Pattern) api.Pattern {
	return api.Pattern{Op: o, Args: args}
}
func rep(lo, hi int, arg api.Pattern) api.Pattern {
	return api.Pattern{Op: api.RxRepeat, Min: lo, Max: hi, Args: []api.Pattern{arg}}
}
func deep(n int) api.Pattern {
	p := one('a')
	for range n - 1 {
		p = op(api.RxNot, p)
	}
	return p
}
func wide(n int) api.Pattern {
	return api.Pattern{Op: api.RxAlt, Args: make([]api.Pattern, n-1)}
}

// P15.1
func TestValid(t *testing.T) {
	good := []api.Pattern{
		{}, {Op: api.RxEmpty}, rng(0, 255), rng(7, 7), op(api.RxCat, one('a'), one('b')),
		op(api.RxAlt, one('a'), one('b')), op(api.RxAnd, one('a'), one('b')), op(api.RxNot, one('a')),
		rep(0, -1, one('a')), rep(0, 0, one('a')), rep(64, 64, one('a')), rep(64, -1, one('a')),
		deep(api.MaxDepth), wide(api.MaxPattern), {Op: api.RxEmpty, Args: []api.Pattern{}},
	}
	for _, p := range good {
		if !Valid(p) {
			t.Errorf("Valid(%v) = false", p)
		}
	}
	bad := []api.Pattern{
		{Op: -1}, {Op: 8}, {Op: api.RxNone, Lo: 1}, {Op: api.RxEmpty, Hi: 1}, {Op: api.RxEmpty, Min: 1},
		{Op: api.RxNone, Max: -1}, {Op: api.RxNone, Args: []api.Pattern{{}}}, {Op: api.RxEmpty, Args: []api.Pattern{{}}},
		rng(-1, 3), rng(3, 2), rng(3, 256), {Op: api.RxRange, Lo: 1, Hi: 2, Args: []api.Pattern{{}}},
		{Op: api.RxRange, Lo: 1, Hi: 2, Max: 1}, op(api.RxCat), op(api.RxCat, one('a')), op(api.RxAlt, one('a')),
		op(api.RxAnd, one('a')), op(api.RxNot), op(api.RxNot, one('a'), one('b')), op(api.RxRepeat),
		rep(-1, 2, one('a')), rep(0, -2, one('a')), rep(3, 2, one('a')), rep(65, -1, one('a')), rep(0, 65, one('a')),
		{Op: api.RxRepeat, Lo: 1, Args: []api.Pattern{{}}}, deep(api.MaxDepth + 1), wide(api.MaxPattern + 1),
		op(api.RxNot, api.Pattern{Op: 9}),
	}
	for _, p := range bad {
		if Valid(p) {
			t.Errorf("Valid(%v) = true", p)
		}
		if Text(p) != "" || Match(p, "") || Nullable(p) || Match(p, "a") {
			t.Errorf("%v: not valid, but used", p)
		}
		if d := Derive(p, 'a'); !reflect.DeepEqual(d, api.Pattern{}) {
			t.Errorf("Derive(%v) = %v", p, d)
		}
		if d := Reverse(p); !reflect.DeepEqual(d, api.Pattern{}) {
			t.Errorf("Reverse(%v) = %v", p, d)
		}
	}
}

// P15.2
func TestSize(t *testing.T) {
	if n := Size(op(api.RxCat, one('a'), rep(0, 3, one('b')))); n != 4 {
		t.Error(n)
	}
	if n := Size(deep(60)); n != api.MaxDepth {
		t.Error(n)
	}
	if n := Size(wide(1000)); n != 1000 {
		t.Error(n)
	}
	if n := Size(api.Pattern{Op: 99, Args: []api.Pattern{{}, {}}}); n != 3 {
		t.Error(n)
	}
}

// P15.3, P15.4
func TestTextParse(t *testing.T) {
	a, b, c := one('a'), one('b'), one('c')
	tests := []struct {
		text string
		p    api.Pattern
	}{
		{"[]", api.Pattern{}},
		{"()", api.Pattern{Op: api.RxEmpty}},
		{".", rng(0, 255)},
		{"[\\x00-\\xfe]", rng(0, 254)},
		{"[a-b]", rng('a', 'b')},
		{"[--/]", rng('-', '/')},
		{"-", one('-')},
		{"\\x20", one(' ')},
		{"\\x7f", one(127)},
		{"\\x5c", one('\\')},
		{"a(b|c)*", op(api.RxCat, a, rep(0, -1, op(api.RxAlt, b, c)))},
		{"ab|c&!d", op(api.RxAlt, op(api.RxCat, a, b), op(api.RxAnd, c, op(api.RxNot, one('d'))))},
		{"a(bc)", op(api.RxCat, a, op(api.RxCat, b, c))},
		{"a{2,2}", rep(2, 2, a)},
		{"a{2,}", rep(2, -1, a)},
		{"a{0,0}", rep(0, 0, a)},
		{"a{1,1}", rep(1, 1, a)},
		{"a{64,64}", rep(64, 64, a)},
		{"a+?*", rep(0, -1, rep(0, 1, rep(1, -1, a)))},
		{"!!a", op(api.RxNot, op(api.RxNot, a))},
		{"!a*", op(api.RxNot, rep(0, -1, a))},
		{"(!a)*", rep(0, -1, op(api.RxNot, a))},
		{"!(ab)", op(api.RxNot, op(api.RxCat, a, b))},
		{"a|(b|c)", op(api.RxAlt, a, op(api.RxAlt, b, c))},
		{"a&(b&c)", op(api.RxAnd, a, op(api.RxAnd, b, c))},
		{"a&(b|c)", op(api.RxAnd, a, op(api.RxAlt, b, c))},
		{"a!bc", op(api.RxCat, a, op(api.RxNot, b), c)},
	}
	for _, test := range tests {
		if got := Text(test.p); got != test.text {
			t.Errorf("Text(%v) = %q, not %q", test.p, got, test.text)
		}
		got, err := Parse(test.text)
		if err != api.OK || !reflect.DeepEqual(got, test.p) {
			t.Errorf("Parse(%q) = %v, %v", test.text, got, err)
		}
	}
	bad := []string{"", "(a)", "a{0,}", "[a-a]", "\\x61", "\\x5C", "[\\x00-\\xff]", "a{65,65}", "a{02,3}", "a{3,2}", "a{1,}", "a{0,1}",
		"a{", "a{2", "a{2,", "a{2,3", "a{,3}", "a{2}", "|", "a|", "|a", "a&", "&", "!", "*", "(", ")", "a)", "(a", "[", "[a", "[a-", "[a-b", "]", "a]",
		"[b-a]", "\\", "\\x", "\\x0", "\\n", " ", "a b", "a\x00", "\x00", "ä", "(a|b)", "(ab)", "a((b|c))", "a(b)", "{", "}", "?", "..(.)", "()()a(())",
		"a{99999999999999999999,}", "(ab)c)", strings.Repeat("(", 100000), strings.Repeat("a*", 300), strings.Repeat("!", 5000) + "a",
		strings.Repeat("a|(", 60), "a" + strings.Repeat("*", 48), strings.Repeat("a", 512)}
	for _, text := range bad {
		if p, err := Parse(text); err != api.ErrSyntax || !reflect.DeepEqual(p, api.Pattern{}) {
			t.Errorf("Parse(%.20q) = %v, %v", text, p, err)
		}
	}
	for _, text := range []string{"a" + strings.Repeat("*", 47), strings.Repeat("a", 511), strings.Repeat("(a|", 0) + "a"} {
		if p, err := Parse(text); err != api.OK || Text(p) != text {
			t.Errorf("Parse(%.20q) = %v", text, err)
		}
	}
}

// P15.5
func TestLiteral(t *testing.T) {
	if p := Literal(""); p.Op != api.RxEmpty {
		t.Error(p)
	}
	if p := Literal("a"); !reflect.DeepEqual(p, one('a')) {
		t.Error(p)
	}
	if p := Literal("a\xff"); !reflect.DeepEqual(p, op(api.RxCat, one('a'), one(255))) {
		t.Error(p)
	}
	if !Valid(Literal(strings.Repeat("x", 511))) || Valid(Literal(strings.Repeat("x", 512))) {
		t.Error("the size of literals")
	}
}

func pattern(r *rand.Rand, size int) api.Pattern {
	if size <= 1 {
		switch r.Intn(7) {
		case 0:
			return api.Pattern{}
		case 1:
			return api.Pattern{Op: api.RxEmpty}
		case 2:
			return rng('a', 'b')
		case 3:
			return rng(0, 255)
		}
		return one(byte('a' + r.Intn(2)))
	}
	switch r.Intn(7) {
	case 0:
		return op(api.RxNot, pattern(r, size-1))
	case 1, 2:
		lo := r.Intn(3)
		hi := lo + r.Intn(3)
		if r.Intn(2) == 0 {
			hi = -1
		}
		return rep(lo, hi, pattern(r, size-1))
	}
	if size < 3 {
		return pattern(r, 1)
	}
	ops := []int{api.RxCat, api.RxCat, api.RxCat, api.RxAlt, api.RxAnd}
	p := api.Pattern{Op: ops[r.Intn(len(ops))]}
	left := size - 1
	for left > 0 {
		n := 1 + r.Intn(left)
		if len(p.Args) == 0 && n == left {
			n--
		}
		p.Args = append(p.Args, pattern(r, n))
		left -= n
	}
	return p
}

// matches is the definition of matching, word for word.
func matches(p api.Pattern, s string) bool {
	switch p.Op {
	case api.RxEmpty:
		return s == ""
	case api.RxRange:
		return len(s) == 1 && p.Lo <= int(s[0]) && int(s[0]) <= p.Hi
	case api.RxCat:
		if len(p.Args) == 1 {
			return matches(p.Args[0], s)
		}
		rest := api.Pattern{Op: api.RxCat, Args: p.Args[1:]}
		for i := 0; i <= len(s); i++ {
			if matches(p.Args[0], s[:i]) && matches(rest, s[i:]) {
				return true
			}
		}
		return false
	case api.RxAlt:
		for _, a := range p.Args {
			if matches(a, s) {
				return true
			}
		}
		return false
	case api.RxAnd:
		for _, a := range p.Args {
			if !matches(a, s) {
				return false
			}
		}
		return true
	case api.RxNot:
		return !matches(p.Args[0], s)
	case api.RxRepeat:
		top := p.Max
		if top < 0 {
			top = p.Min + len(s)
		}
		for n := p.Min; n <= top; n++ {
			if divided(p.Args[0], s, n) {
				return true
			}
		}
	}
	return false
}

func divided(p api.Pattern, s string, n int) bool {
	if n == 0 {
		return s == ""
	}
	for i := 0; i <= len(s); i++ {
		if matches(p, s[:i]) && divided(p, s[i:], n-1) {
			return true
		}
	}
	return false
}

func words(max int) []string {
	list := []string{""}
	for from := 0; len(list[len(list)-1]) < max; {
		to := len(list)
		for _, w := range list[from:to] {
			for _, c := range []string{"a", "b", "c"} {
				list = append(list, w+c)
			}
		}
		from = to
	}
	return list
}

func backwards(s string) string {
	b := []byte{}
	for i := len(s) - 1; i >= 0; i-- {
		b = append(b, s[i])
	}
	return string(b)
}

// P15.3, P15.4, P15.6 to P15.10
func TestRandomPatterns(t *testing.T) {
	r := rand.New(rand.NewSource(1))
	list := words(4)
	for range 1500 {
		p := pattern(r, 1+r.Intn(9))
		text := Text(p)
		if q, err := Parse(text); err != api.OK || !reflect.DeepEqual(q, p) {
			t.Fatalf("Parse(%q) = %v", text, err)
		}
		if Nullable(p) != matches(p, "") {
			t.Fatalf("Nullable(%q)", text)
		}
		back := Reverse(p)
		da, db := Derive(p, 'a'), Derive(p, 'b')
		if !Valid(da) || !Valid(db) {
			t.Fatalf("Derive(%q) is not valid", text)
		}
		for _, w := range list {
			want := matches(p, w)
			if Match(p, w) != want {
				t.Fatalf("Match(%q, %q) = %v", text, w, !want)
			}
			if Match(back, backwards(w)) != want {
				t.Fatalf("Match(Reverse(%q), %q) = %v", text, backwards(w), !want)
			}
			if w != "" && w[0] == 'a' && Match(da, w[1:]) != want {
				t.Fatalf("Match(Derive(%q, a) = %q, %q) = %v", text, Text(da), w[1:], !want)
			}
			if w != "" && w[0] == 'b' && Match(db, w[1:]) != want {
				t.Fatalf("Match(Derive(%q, b) = %q, %q) = %v", text, Text(db), w[1:], !want)
			}
		}
	}
}

// P15.7
func TestDeriveIsValid(t *testing.T) {
	r := rand.New(rand.NewSource(2))
	most, depth := 0, 0
	for range 20000 {
		p := pattern(r, 22)
		d := Derive(p, 'a')
		if !Valid(d) {
			t.Fatalf("Derive(%q) has %d nodes", Text(p), Size(d))
		}
		most = max(most, Size(d))
	}
	chain := one('a')
	for range 21 {
		chain = rep(0, -1, chain)
	}
	spine := api.Pattern(one('a'))
	for range 10 {
		spine = op(api.RxCat, rep(0, 1, spine), one('a'))
		if Size(spine) > 22 {
			break
		}
		if d := Derive(spine, 'a'); !Valid(d) {
			t.Errorf("Derive(%q)", Text(spine))
		}
	}
	if d := Derive(chain, 'a'); !Valid(d) {
		t.Errorf("%d nodes", Size(d))
	}
	t.Log(most, depth)
	for _, b := range []int{-1, 256} {
		if d := Derive(one('a'), b); !reflect.DeepEqual(d, api.Pattern{}) {
			t.Error(d)
		}
	}
	p := op(api.RxAlt, op(api.RxCat, one('a'), one('b')), op(api.RxCat, one('a'), one('c')))
	d := Derive(p, 'a')
	if !Match(d, "b") || !Match(d, "c") || Match(d, "") || Match(d, "a") {
		t.Error(Text(d))
	}
}

// P15.6
func TestMatchLong(t *testing.T) {
	long := strings.Repeat("ab", 30000)
	for text, want := range map[string]bool{"(ab)*": true, "(ab)*a": false, "!(.*aa.*)": true, "(a|b)*a(a|b){63,63}": true, "(a|b)*b(a|b){63,63}": false,
		".{0,64}{0,64}": false, "(!(aa)){60,64}": true, ".*a.*&.*b.*": true} {
		p, err := Parse(text)
		if err != api.OK || Match(p, long) != want {
			t.Errorf("Match(%q) is not %v", text, want)
		}
	}
}

// P15.6: many ways to divide a string
func TestMatchNested(t *testing.T) {
	p, err := Parse(".{0,64}{0,64}{0,64}")
	if err != api.OK || !Match(p, strings.Repeat("a", 6000)) {
		t.Error("no match")
	}
}

// R5
func TestNoSharing(t *testing.T) {
	p := rep(0, -1, op(api.RxCat, rep(0, 1, one('a')), rep(0, -1, one('b'))))
	want := Text(p)
	for _, q := range []api.Pattern{Derive(p, 'a'), Derive(p, 'b'), Reverse(p)} {
		spoil(&q)
	}
	if Text(p) != want {
		t.Error("shared memory")
	}
	d := Derive(p, 'b')
	before := Text(d)
	q := d.Args[len(d.Args)-1]
	spoil(&q.Args[0])
	if Text(p) != want || before == "" {
		t.Error("shared memory")
	}
}

func spoil(p *api.Pattern) {
	for i := range p.Args {
		spoil(&p.Args[i])
	}
	if len(p.Args) == 0 {
		*p = one('z')
	}
}
