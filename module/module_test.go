package module

import (
	"reflect"
	"slices"
	"strings"
	"testing"

	"datakit/api"
	"datakit/qparse"
)

func mod(t *testing.T, name, src string) api.Module {
	t.Helper()
	m, at, err := qparse.Module(name, src)
	if err != api.OK {
		t.Fatalf("%q: %v at %d", src, err, at)
	}
	return m
}

func expr(t *testing.T, src string) api.Expr {
	t.Helper()
	e, at, err := qparse.Parse(src)
	if err != api.OK {
		t.Fatalf("%q: %v at %d", src, err, at)
	}
	return e
}

func text(e api.Expr) string {
	s, _ := qparse.Text(e)
	return s
}

// The prelude is the one of the chapter.
func TestPrelude(t *testing.T) {
	m := prelude()
	if len(m.Funcs) != 17 || m.Main.Op != api.QNone {
		t.Error(len(m.Funcs))
	}
	p, err := Link(mod(t, "main", "."), nil)
	if err != api.OK || Check(p) != api.OK || len(p.Funcs) != 17 {
		t.Error(err)
	}
}

// P38.1
func TestFree(t *testing.T) {
	for src, want := range map[string]string{
		"$a | . as $b | $b + $c": "a c", ".": "", "$z, $a, $z": "a z", "$x as $x | $x": "x", "reduce $x as $x ($y; $x)": "x y", "reduce . as $x ($x; .)": "x", "foreach . as $x (1; $x; $x)": "", "foreach . as $x ($x; 1)": "x", "def f($a): $a + $b; f($a)": "a b", "def f(a): $a; f(1)": "a", "1 as $x | def f: $x; f": "", "label $l | $l": "l", "{($k): $v}": "k v", "(1 as $x | $x), $x": "x",
	} {
		if got := Free(expr(t, src)); !slices.Equal(got, strings.Fields(want)) {
			t.Errorf("Free(%q) = %q", src, got)
		}
	}
}

// P38.2
func TestOrder(t *testing.T) {
	a, b, c := mod(t, "a", "import b;"), mod(t, "b", "import c;"), mod(t, "c", "")
	for _, test := range []struct {
		l    []api.Module
		want []int
		err  api.Errno
	}{
		{nil, nil, 0}, {[]api.Module{a, b, c}, []int{2, 1, 0}, 0}, {[]api.Module{c, a, b, mod(t, "d", "")}, []int{0, 2, 1, 3}, 0}, {[]api.Module{a, b}, nil, api.ErrNotFound}, {[]api.Module{c, c}, nil, api.ErrExists}, {[]api.Module{mod(t, "prelude", "")}, nil, api.ErrExists}, {[]api.Module{mod(t, "a", "import a;")}, nil, api.ErrCycle}, {[]api.Module{a, b, mod(t, "c", "import a;")}, nil, api.ErrCycle}, {[]api.Module{c, {Name: "1"}}, nil, api.ErrName}, {make([]api.Module, 17), nil, api.ErrName}, {[]api.Module{mod(t, "a", "import prelude;")}, nil, api.ErrNotFound}, {[]api.Module{mod(t, "a", "import a; import x;")}, nil, api.ErrNotFound},
	} {
		if got, err := Order(test.l); !slices.Equal(got, test.want) || err != test.err {
			t.Error(test, got, err)
		}
	}
	var many []api.Module
	for i := range 17 {
		many = append(many, mod(t, "m"+string(rune('a'+i)), ""))
	}
	if _, err := Order(many); err != api.ErrSize {
		t.Error(err)
	}
	if l, err := Order(many[1:]); err != api.OK || len(l) != 16 {
		t.Error(err)
	}
	many[3] = many[2]
	if _, err := Order(many); err != api.ErrSize {
		t.Error(err)
	}
}

// P38.3
func TestLink(t *testing.T) {
	lib := []api.Module{mod(t, "m", "def f: 1; def g($x): f + $x; def select(p): 7; def length: 8; def h: length, map(.);"), mod(t, "n", "import m as q; def f: q::f; def k: 2;"), mod(t, "other", "def z: 1;")}
	for _, test := range []struct{ src, main, err string }{
		{"map(. + 1)", "prelude::map(. + 1)", ""}, {"import m; f", "m::f", ""}, {"import m as x; x::f", "m::f", ""}, {"import m as x; f", "", "name"}, {"import m; f(1)", "", "arity"}, {"import m; g(2)", "m::g(2)", ""}, {"import m; select(.)", "m::select(.)", ""}, {"select(.)", "prelude::select(.)", ""}, {"import m; length", "m::length", ""}, {"length", "length", ""}, {"path(.), getpath(.), setpath(.; .), delpaths(.)", "path(.), getpath(.), setpath(.; .), delpaths(.)", ""}, {"path", "", "arity"}, {"m::f", "", "name"}, {"prelude::map(.)", "", "name"}, {"import m; import n; f", "m::f", ""}, {"import n; import m; f", "n::f", ""}, {"import n as x; import m as x; x::g(1), x::f", "m::g(1), n::f", ""}, {"import n; f", "n::f", ""}, {"import n; g(1)", "", "name"}, {"import other as x; x::f", "", "name"},
		{"def f: 1; f", "f", ""}, {"def length: 1; length", "mn::length", ""}, {"def map(f): 1; map(2)", "map(2)", ""}, {"def path(f): 1; path(2)", "mn::path(2)", ""}, {"def f: 1; f(2)", "", "arity"}, {"(def f: 1; f)", "(def f: 1; f)", ""}, {"(def length: 1; length)", "(def length: 1; length)", ""}, {"(def length(f): 1; length)", "", "arity"}, {"(def f(map): map; f(1))", "(def f(map): map; f(1))", ""}, {"(def f(map): map(1); f(1))", "", "arity"}, {"(def f(f): f; f(1))", "(def f(f): f; f(1))", ""}, {"(def f(f): f(2); f(1))", "", "arity"}, {"(def f: g; def g: f; f)", "(def f: g; def g: f; f)", ""}, {"(def f: 1; .) | f", "", "name"}, {"def f(g): g; f(1)", "f(1)", ""}, {"def f(g): g(1); f(1)", "", "arity"}, {"def f($x): $x; f(1)", "f(1)", ""}, {"def f($x): x; f(1)", "", "name"},
		{"$x", "", "name"}, {". as $x | $x", ". as $x | $x", ""}, {"break $l", "", "name"}, {"label $l | break $l", "label $l | break $l", ""}, {"label $l | (def f: break $l; f)", "label $l | def f: break $l; f", ""}, {"def f: $x; 1 as $x | f", "", "name"}, {"1 as $x | (def f: $x; f)", "1 as $x | def f: $x; f", ""}, {"$x | nope", "", "name"}, {"f(1; 2) | $x", "", "name"}, {"length(1) | $x", "", "arity"}, {"reduce . as $x (0; $x)", "reduce . as $x (0; $x)", ""}, {"reduce . as $x ($x; 0)", "", "name"}, {"def f: 1;", "", "argument"}, {"import zz; 1", "", "not found"},
	} {
		p, err := Link(mod(t, "mn", test.src), lib)
		if test.err != "" {
			if err.Error() != test.err || !reflect.DeepEqual(p, api.Program{}) {
				t.Errorf("Link(%q): %v", test.src, err)
			}
			continue
		}
		want := test.main
		if strings.HasPrefix(want, "(def") {
			want = want[1 : len(want)-1]
		}
		if err != api.OK || text(p.Main) != want || Check(p) != api.OK {
			t.Errorf("Link(%q): %q, %v, %v", test.src, text(p.Main), err, Check(p))
		}
		if !slices.IsSortedFunc(p.Funcs, func(a, b api.Func) int { return strings.Compare(a.Name, b.Name) }) {
			t.Error("not sorted")
		}
		back := []api.Module{lib[2], lib[1], lib[0]}
		if q, _ := Link(mod(t, "mn", test.src), back); !reflect.DeepEqual(p, q) {
			t.Errorf("Link(%q) depends on the order", test.src)
		}
	}
	p, _ := Link(mod(t, "mn", "import m; h"), lib)
	for _, f := range p.Funcs {
		if f.Name == "m::h" && text(f.Body) != "m::length, prelude::map(.)" {
			t.Error(text(f.Body))
		}
	}
	for _, test := range []struct {
		main api.Module
		l    []api.Module
		err  api.Errno
	}{{api.Module{Name: "1"}, []api.Module{{}}, api.ErrName}, {mod(t, "m", "def f: 1;"), []api.Module{{}}, api.ErrArg}, {mod(t, "m", "1"), []api.Module{{}}, api.ErrName}, {mod(t, "m", "import zz; 1"), lib, api.ErrExists}, {mod(t, "prelude", "1"), nil, api.ErrExists}, {mod(t, "x", "import y; 1"), []api.Module{mod(t, "y", "def f: nope;")}, api.ErrName}, {mod(t, "x", "1"), []api.Module{mod(t, "y", "def f: nope;")}, api.OK}} {
		if _, err := Link(test.main, test.l); err != test.err {
			t.Error(test.main, err)
		}
	}
	many := "def f: 1;"
	for i := range 239 {
		many += "def f" + strings.Repeat("x", i%50) + string(rune('a'+i/50)) + ": 1;"
	}
	if _, err := Link(mod(t, "x", many+" 1"), nil); err != api.ErrSize {
		t.Error(err)
	}
	if p, err := Link(mod(t, "x", many[9:]+" 1"), nil); err != api.OK || len(p.Funcs) != 256 {
		t.Error(err)
	}
}

// P38.4
func TestCheck(t *testing.T) {
	f := func(name, body string, params ...api.Param) api.Func {
		return api.Func{Name: name, Params: params, Body: expr(t, body)}
	}
	a := api.Param{Name: "a"}
	for i, test := range []struct {
		funcs []api.Func
		main  string
		err   api.Errno
	}{
		{nil, ".", 0}, {nil, "f", api.ErrName}, {[]api.Func{f("f", "1")}, "f", 0}, {[]api.Func{f("m::f", "1", a)}, "m::f(1)", 0}, {[]api.Func{f("m::f", "1", a)}, "m::f", api.ErrArity}, {[]api.Func{f("f", "a", a)}, "f(1)", 0}, {[]api.Func{f("f", "a(1)", a)}, "f(1)", api.ErrArity}, {[]api.Func{f("f", "$a", a)}, "1", api.ErrName}, {[]api.Func{f("f", "1"), f("f", "nope")}, "1", api.ErrExists}, {[]api.Func{f("f", "g"), f("g", "1", a)}, "1", api.ErrArity}, {[]api.Func{f("f", "g"), f("g", "1")}, "1", 0}, {[]api.Func{f("if", "1")}, "1", api.ErrName}, {[]api.Func{f("a::b::c", "1")}, "1", api.ErrName}, {[]api.Func{f("a::", "1")}, "1", api.ErrName}, {[]api.Func{f("f", "1", make([]api.Param, 9)...)}, "1", api.ErrSize}, {[]api.Func{f("f", "1", api.Param{})}, "1", api.ErrName}, {[]api.Func{f("f", "1", a, a)}, "1", api.ErrExists}, {[]api.Func{{Name: "f"}}, "nope", api.ErrArg}, {[]api.Func{f("length", "1", a)}, "length(1)", 0}, {nil, "length", 0}, {nil, "length(1)", api.ErrArity}, {nil, "break $x", api.ErrName},
	} {
		p := api.Program{Funcs: test.funcs, Main: expr(t, test.main)}
		if err := Check(p); err != test.err {
			t.Error(i, err)
		}
		if _, err := Trim(p); err != test.err {
			t.Error(i, err)
		}
	}
	if err := Check(api.Program{Main: api.Expr{Op: api.QNone}}); err != api.ErrArg {
		t.Error(err)
	}
	if err := Check(api.Program{Funcs: make([]api.Func, 257)}); err != api.ErrSize {
		t.Error(err)
	}
}

// P38.5, P38.6
func TestTrim(t *testing.T) {
	for src, want := range map[string]string{"map(. + 1)": "prelude::map", "1": "", "walk(.)": "prelude::map prelude::walk prelude::with_entries", "sort_by(.)": "prelude::group_by prelude::sort_by", "def f: g; def g: f; def h: 1; f": "f g", "def f: 1; (def f: 2; f)": "", "def f: 1; def g(f): f; g(1)": "g", "def f: 1; def g(h): f; g(1)": "f g"} {
		p, err := Link(mod(t, "main", src), nil)
		if err != api.OK {
			t.Fatal(src, err)
		}
		if got := Used(p); !slices.Equal(got, strings.Fields(want)) {
			t.Errorf("Used(%q) = %q", src, got)
		}
		q, err := Trim(p)
		if err != api.OK || len(q.Funcs) != len(strings.Fields(want)) || !reflect.DeepEqual(q.Main, p.Main) || Check(q) != api.OK {
			t.Error(src, err)
		}
		if again, _ := Trim(q); !reflect.DeepEqual(again, q) {
			t.Error(src)
		}
		for i := range q.Funcs {
			q.Funcs[i].Body.Op = 99
		}
		q.Main.Op = 99
		for i := range q.Main.Args {
			q.Main.Args[i].Op = 99
		}
		if Check(p) != api.OK {
			t.Error("shared memory")
		}
	}
}
