package qeval

import (
	"reflect"
	"strings"
	"testing"

	"datakit/api"
	"datakit/brace"
	"datakit/limit"
	"datakit/module"
	"datakit/path"
	"datakit/qparse"
	"datakit/qpath"
	"datakit/value"
)

func val(t *testing.T, src string) api.Value {
	t.Helper()
	v, _, err := brace.Read(src, limit.Usual())
	if err != api.OK {
		t.Fatal(src, err)
	}
	return v
}

func program(t *testing.T, src string) api.Program {
	t.Helper()
	m, at, err := qparse.Module("main", src)
	if err != api.OK {
		t.Fatalf("%q: %v at %d", src, err, at)
	}
	p, err := module.Link(m, nil)
	if err != api.OK {
		t.Fatalf("%q: %v", src, err)
	}
	return p
}

// show writes the outputs and the error of an outcome.
func show(o api.Outcome) string {
	var parts []string
	for _, v := range o.Out {
		s, _ := brace.Inline(v)
		parts = append(parts, s)
	}
	if o.Err == api.ErrUser {
		s, _ := brace.Inline(o.Val)
		parts = append(parts, "error "+s)
	} else if o.Err != api.OK {
		parts = append(parts, o.Err.Error())
	}
	return strings.Join(parts, "; ")
}

// P40.1: the rules, one by one
func TestRules(t *testing.T) {
	for _, test := range [][3]string{
		{".", "1", "1"}, {"..", "[1, {a: [2]}]", "[1, {a: [2]}]; 1; {a: [2]}; [2]; 2"}, {"null, true, 1.50, \"a\"", "0", "null; true; 1.5; \"a\""}, {".a", "{a: 1}", "1"}, {".a", "null", "null"}, {".a", "[1]", "kind"}, {".[1]", "[1, 2]", "2"}, {".[-1, 0]", "[1, 2]", "2; 1"}, {"(.a, .b)[0, 1]", "{a: [1, 2], b: [3, 4]}", "1; 2; 3; 4"}, {".[1:], .[:1], .[0:(1, 2)]", "[1, 2, 3]", "[2, 3]; [1]; [1]; [1, 2]"}, {"(\"abc\", \"xyz\")[(0, 1):2]", "0", `"ab"; "b"; "xy"; "y"`}, {".[]", "[1, 2]", "1; 2"}, {".[]", "{b: 1, a: 2}", "1; 2"}, {".[]", "1", "kind"}, {".[] | . + 1", "[1, 2]", "2; 3"}, {"1, error(2), 3", "0", "1; error 2"},
		{"-(1, 2)", "0", "-1; -2"}, {"-.", "\"a\"", "kind"}, {"(1, 2) + (10, 20)", "0", "11; 21; 12; 22"}, {"1 < (0, 2)", "0", "false; true"}, {"(true, false) and (1, null)", "0", "true; false; false"}, {"(true, null) or (1, null)", "0", "true; true; false"}, {"(null, 1, false, 2) // 3", "0", "1; 2"}, {"(null, false) // (3, 4)", "0", "3; 4"}, {"(1, error(7)) // 3", "0", "1; error 7"}, {".[] // 9", "[]", "9"},
		{"try error(5) catch . + 1", "0", "6"}, {"try (1 / 0) catch .", "0", `"divide"`}, {"(try 1) | error(2)", "0", "error 2"}, {"(1, error(2), 3)?", "0", "1"}, {"try (1, error(2)) catch (., 3)", "0", "1; 2; 3"}, {"try error(1) catch error(2)", "0", "error 2"}, {"try (try error(1) catch error(2)) catch . + 10", "0", "12"}, {"(1, 2) | try (if . == 1 then error(\"x\") else . end) catch .", "0", `"x"; 2`}, {"[(try 1), 2 | error(3)]?", "0", ""}, {"label $l | try break $l catch 7", "0", ""}, {"try (label $l | 1, break $l, 2) catch 7", "0", "1"}, {"try error(null) catch .", "0", "null"},
		{"if . then 1 else 2 end", "0", "1"}, {"if (true, null) then 1 else 2 end", "0", "1; 2"}, {"if false then 1 end", "7", "7"}, {"if empty then 1 end", "7", ""}, {"reduce .[] as $x (0; . + $x)", "[1, 2, 3]", "6"}, {"reduce .[] as $x ((0, 10); . + $x)", "[1, 2]", "3; 13"}, {"reduce .[] as $x (0; ., . + $x)", "[1, 2]", "3"}, {"reduce .[] as $x (0; empty)", "[1, 2]", "null"}, {"reduce empty as $x (5; 0)", "0", "5"}, {"reduce (1, error(2)) as $x (0; .)", "0", "error 2"}, {"foreach .[] as $x (0; . + $x)", "[1, 2, 3]", "1; 3; 6"}, {"foreach .[] as $x (0; . + $x; [$x, .])", "[1, 2]", "[1, 1]; [2, 3]"}, {"foreach .[] as $x (0; ., . + $x)", "[1, 2]", "0; 1; 1; 3"}, {"foreach (1, 2) as $x ((0, 10); . + $x; ., -.)", "0", "1; -1; 3; -3; 11; -11; 13; -13"}, {"foreach .[] as $x (0; empty; 1)", "[1]", ""},
		{"(1, 2) as $x | $x, 10", "0", "1; 10; 2; 10"}, {"1 as $x | 2 as $x | $x", "0", "2"}, {". as $x | [.[] | . + $x[0]]", "[1, 2]", "[2, 3]"}, {"[]", "0", "[]"}, {"[1, empty, 2]", "0", "[1, 2]"}, {"[1, error(2)]", "0", "error 2"}, {"{a: 1, b: (2, 3)}", "0", "{a: 1, b: 2}; {a: 1, b: 3}"}, {"{(\"a\", \"b\"): (1, 2)}", "0", "{a: 1}; {a: 2}; {b: 1}; {b: 2}"}, {"{a: 1, b: 2, a: 3}", "0", "{a: 3, b: 2}"}, {"{(1): 2}", "0", "kind"}, {"{}", "0", "{}"}, {"{a: empty}", "0", ""}, {"{(1): error(3)}", "0", "kind"}, {"{a: error(3), (1): 2}", "0", "error 3"},
		{"label $a | 1, break $a, 2", "0", "1"}, {"label $a | label $b | 1, break $a, 2", "0", "1"}, {"label $a | (label $b | 1, break $b, 2), 3", "0", "1; 3"}, {"label $a | (label $a | 1, break $a, 2), 3", "0", "1; 3"}, {"[limit(2; 1, 2, 3)]", "0", "[1, 2]"}, {"label $f | (1, 2) | (label $g | if . == 1 then break $g else break $f end), 5", "0", "5"},
		{"def f: 1; def g: f + 1; g", "0", "2"}, {"def f($x; g): $x + g; f(1, 2; 10, 20)", "0", "11; 21; 12; 22"}, {"def f(g): 5 | g; f(. + 1)", "0", "6"}, {"def f($x): def g: $x; g; f(1) + f(2)", "0", "3"}, {"3 as $x | def f(g): 4 as $x | g; f($x)", "0", "3"}, {"def f: if . > 3 then . else . + 1 | f end; f", "0", "4"}, {"1 as $x | def f: $x; 2 as $x | f", "0", "1"}, {"def f(g): def h: g; h; f(7)", "0", "7"}, {"label $l | def f: break $l; 1, f, 2", "0", "1"}, {"def f(x): x; def g(x): f(x); g(.a)", "{a: 5}", "5"}, {"length, (1 | tostring)", "[1]", "1; \"1\""}, {"has(0, 5)", "[7]", "true; false"}, {"quo(3, 1; 0, 1)", "2", "1; 0.7; 2; 2"},
		{"path(.a[0], .b)", "{a: [1]}", `["a", 0]; ["b"]`}, {"path(1)", "0", "path"}, {"path(.)", "0", "[]"}, {"path(..)", "[[1], 2]", "[]; [0]; [0, 0]; [1]"}, {"path(.[] | select(. > 1))", "[1, 2]", "[1]"}, {"path(.a // .b)", "{b: 1}", `["b"]`}, {"path(if .a then .b else .c end)", "{a: 1}", `["b"]`}, {"path(.a | getpath([\"b\", 0]))", "{a: {b: [1]}}", `["a", "b", 0]`}, {"path(.[-1])", "[1, 2]", "[1]"}, {"path(.[-3])", "[1, 2]", "range"}, {"path(.[-1e300])", "[1, 2]", "range"}, {".[-1e300]", "[1, 2]", "null"}, {"path(.[-1])", "null", "range"}, {"path(.[0.5])", "[1]", "inexact"}, {"path(.[1e30])", "[1]", "range"}, {"path(.[1:])", "[1]", "path"}, {"path(try .a catch .b)", "{a: 1}", `["a"]`}, {"path(. as $x | .a)", "{a: 1}", `["a"]`}, {"path(label $l | .a, break $l)", "{}", `["a"]`}, {"path(.a + 1)", "{a: 1}", "path"}, {"path(def f: .a; f)", "{a: 1}", `["a"]`}, {"path(first(.[]))", "[5]", "[0]"}, {"path(.a | path(.b))", "{}", "path"}, {"path(reduce 1 as $x (.; .))", "{}", "path"}, {"path(foreach 1 as $x (.; .))", "{}", "path"}, {"[paths]", "{a: [1]}", `[["a"], ["a", 0]]`},
		{"getpath([\"a\", 0])", "{a: [5]}", "5"}, {"getpath([\"a\", \"b\"])", "{a: 5}", "kind"}, {"getpath(1)", "0", "kind"}, {"getpath([true])", "0", "kind"}, {"getpath([], [\"a\"])", "{a: 1}", "{a: 1}; 1"}, {"setpath([\"a\"]; 1, 2)", "null", "{a: 1}; {a: 2}"}, {"setpath([-1]; 1)", "[]", "range"}, {"delpaths([[0], [2]])", "[1, 2, 3]", "[2]"}, {"delpaths(1)", "0", "kind"}, {"delpaths([1])", "0", "kind"}, {"del(.[0], .[1])", "[1, 2, 3]", "[3]"}, {"del(.a)", "{a: 1, b: 2}", "{b: 2}"}, {"del(.)", "1", "null"},
		{".a = 1", "{b: 2}", "{b: 2, a: 1}"}, {".a = (1, 2)", "{}", "{a: 1}; {a: 2}"}, {"(.a, .b) = .c", "{c: 3}", "{c: 3, a: 3, b: 3}"}, {".[] = 1", "[3, 4]", "[1, 1]"}, {"1 = 2", "0", "path"}, {"empty = 1", "5", "5"}, {".a = empty", "5", ""}, {".a.b = 1", "{a: 5}", "kind"}, {".a |= . + 1", "{a: 1}", "{a: 2}"}, {".a |= empty", "{a: 1, b: 2}", "{b: 2}"}, {".[] |= (., 9)", "[1, 2]", "[1, 2]"}, {".[] |= select(. > 1)", "[1, 2, 3, 1]", "[2, 3]"}, {"(.a, .a) |= . + 1", "{a: 1}", "{a: 3}"}, {"1 |= 2", "0", "path"}, {".a |= error(4)", "{}", "error 4"}, {"label $l | 1, (.a |= break $l), 2", "{}", "1"}, {".a |= . * 2", "{a: 3, b: 1}", "{a: 6, b: 1}"}, {". |= 5", "1", "5"}, {".. |= .", "[1]", "[1]"}, {"try (.a |= (1 / 0)) catch .", "{}", `"divide"`},
		{"[range(0; 3)], [range(0, 1; 2)]", "0", "[0, 1, 2]; [0, 1, 1]"}, {"map(. + 1)", "[1, 2]", "[2, 3]"}, {"[recurse(if . < 3 then . + 1 else empty end)]", "0", "[0, 1, 2, 3]"}, {"first(.[]), last(.[])", "[1, 2]", "1; 2"}, {"[limit(0; 1, 2)]", "0", "[]"}, {"with_entries({key: (.key + \"x\"), value: .value})", "{a: 1}", "{ax: 1}"}, {"group_by(. % 2)", "[1, 2, 3]", "[[2], [1, 3]]"}, {"sort_by(-.)", "[1, 3, 2]", "[3, 2, 1]"}, {"unique_by(. % 2)", "[1, 2, 3]", "[2, 1]"}, {"[while(. < 10; . * 2)]", "1", "[1, 2, 4, 8]"}, {"until(. > 10; . * 2)", "1", "16"}, {"walk(if type == \"number\" then . + 1 else . end)", "[1, {a: 2}]", "[2, {a: 3}]"}, {"[.[] | select(. > 1)]", "[1, 2, 3]", "[2, 3]"}, {"empty", "0", ""},
	} {
		o, at := Query(test[0], val(t, test[1]), api.MaxFuel)
		if got := show(o); got != test[2] || at != 0 {
			t.Errorf("%s on %s: %s, not %s", test[0], test[1], got, test[2])
		}
		if o.Err != api.ErrUser && !reflect.DeepEqual(o.Val, api.Value{}) {
			t.Error(test[0], "an error value")
		}
	}
}

// P40.1: steps and fuel
func TestFuel(t *testing.T) {
	for src, steps := range map[string]int{".": 1, ".[] | . + 1": 9, "def f: 1; f": 2, "1, 2": 3, "[]": 1, ".?": 2, "if true then 1 end": 3, ".[0:]": 3, "def f($x): $x; f(1)": 3, "def f(x): x; f(1)": 3, "..": 1, "path(.)": 2, ".[] = 1": 4, ".[] |= 1": 5, "label $l | break $l": 2, "reduce .[] as $x (0; 1)": 6} {
		in := val(t, "[1, 2]")
		o, _ := Query(src, in, api.MaxFuel)
		if o.Steps != steps || o.Err != api.OK {
			t.Errorf("%s: %d steps, %v", src, o.Steps, o.Err)
		}
		p := program(t, src)
		for fuel := -1; fuel <= steps; fuel++ {
			less := Eval(p, in, fuel)
			if fuel < steps && (less.Err != api.ErrFuel || less.Steps != max(fuel, 0)) || fuel == steps && !reflect.DeepEqual(less, o) {
				t.Errorf("%s with %d: %v after %d", src, fuel, less.Err, less.Steps)
			}
			if !strings.HasPrefix(show(o), strings.TrimSuffix(strings.TrimSuffix(show(less), "fuel"), "; ")) {
				t.Errorf("%s with %d: %s", src, fuel, show(less))
			}
		}
	}
	o, _ := Query("def f: f; f", api.Value{}, 1<<40)
	if o.Err != api.ErrFuel || o.Steps != 1025 {
		t.Error(o.Err, o.Steps)
	}
	o, _ = Query("def f: try f catch 1; f", api.Value{}, api.MaxFuel)
	if o.Err != api.ErrFuel || len(o.Out) != 0 {
		t.Error(show(o))
	}
	o, _ = Query("range(0; 5000)", api.Value{}, api.MaxFuel)
	if o.Err != api.ErrFuel || len(o.Out) != api.MaxOutputs {
		t.Error(o.Err, len(o.Out))
	}
	o, _ = Query("range(0; 4096)", api.Value{}, api.MaxFuel)
	if o.Err != api.OK || len(o.Out) != api.MaxOutputs {
		t.Error(o.Err, len(o.Out))
	}
	o, _ = Query("[range(0; 65535)] | length", api.Value{}, api.MaxFuel)
	if show(o) != "65535" {
		t.Error(show(o))
	}
	o, _ = Query("[range(0; 65535), 1] | length", api.Value{}, api.MaxFuel)
	if show(o) != "size" {
		t.Error(show(o))
	}
	o, _ = Query("def f: . | . | . | . | . | f; f", api.Value{}, api.MaxFuel)
	if o.Err != api.ErrFuel {
		t.Error(show(o))
	}
	o, _ = Query("last(range(0; 60000) | range(0; 60000))", api.Value{}, api.MaxFuel)
	if o.Err != api.ErrFuel || o.Steps != api.MaxFuel {
		t.Error(o.Err, o.Steps)
	}
}

// P40.2, P40.3, P40.5
func TestPathsFirst(t *testing.T) {
	for _, test := range [][3]string{{"..", "[[1], {a: 2}]", ".; .[0]; .[0][0]; .[1]; .[1].a"}, {".a, 1, .b", "{}", ".a; path"}, {".[-1]", "[1, 2]", ".[1]"}, {".a[3].b", "null", ".a[3].b"}, {"error(1)", "0", "error 1"}} {
		in := val(t, test[1])
		paths, o := Paths(program(t, test[0]), in, api.MaxFuel)
		var parts []string
		for i, p := range paths {
			parts = append(parts, path.Text(p))
			if v, err := qpath.Get(in, p); err != api.OK || !value.Same(v, o.Out[i]) {
				t.Error(test, i)
			}
		}
		o.Out = nil
		if rest := show(o); rest != "" {
			parts = append(parts, rest)
		}
		if got := strings.Join(parts, "; "); got != test[2] {
			t.Errorf("%s: %s", test[0], got)
		}
	}
	if paths, o := Paths(program(t, "def r: ., r; r"), value.Null(), api.MaxFuel); o.Err != api.ErrFuel || len(paths) != len(o.Out) {
		t.Error(o.Err)
	}
	many, o := Paths(program(t, "getpath([range(0; 4096)] | .[] | [.]), 1"), value.Null(), api.MaxFuel)
	if len(many) != 4096 || o.Err != api.ErrFuel {
		t.Error(len(many), o.Err)
	}
	v, ok, o := First(program(t, "1, error(2)"), value.Null(), api.MaxFuel)
	if !ok || show(o) != "1" || o.Steps != 2 || !value.Same(v, value.Int(1)) {
		t.Error(v, ok, o)
	}
	for src, want := range map[string]string{"empty": "", "error(2), 1": "error 2"} {
		v, ok, o := First(program(t, src), value.Null(), api.MaxFuel)
		if all := Eval(program(t, src), value.Null(), api.MaxFuel); ok || !value.Same(v, api.Value{}) || show(o) != want || !reflect.DeepEqual(o, all) {
			t.Error(src, show(o))
		}
	}
	bad := api.Program{Main: api.Expr{Op: api.QVar, Name: "x"}}
	if o := Eval(bad, api.Value{}, 9); !reflect.DeepEqual(o, api.Outcome{Err: api.ErrName}) {
		t.Error(o)
	}
	if p, o := Paths(bad, api.Value{}, 9); p != nil || o.Err != api.ErrName {
		t.Error(o)
	}
	if _, ok, o := First(bad, api.Value{}, 9); ok || o.Err != api.ErrName {
		t.Error(o)
	}
	long := ".a" + strings.Repeat(".a", 30)
	p := program(t, long+" | "+long)
	if _, o := Paths(p, value.Null(), api.MaxFuel); o.Err != api.ErrSize {
		t.Error(o.Err)
	}
	if o := Eval(p, value.Null(), api.MaxFuel); show(o) != "null" {
		t.Error(show(o))
	}
}

// P40.4
func TestQuery(t *testing.T) {
	for _, test := range []struct {
		src string
		at  int
		err api.Errno
	}{{"1 +", 3, api.ErrTruncated}, {"1 1", 2, api.ErrSyntax}, {"nope", 0, api.ErrName}, {"def f: 1;", 0, api.ErrArg}, {"import m; 1", 0, api.ErrNotFound}, {"length(1)", 0, api.ErrArity}, {"1", 0, api.OK}} {
		o, at := Query(test.src, api.Value{}, 99)
		if at != test.at || o.Err != test.err {
			t.Error(test, at, o.Err)
		}
	}
}

// R5
func TestNoSharing(t *testing.T) {
	in := val(t, "[[1], {a: [2]}]")
	o, _ := Query("., ., .[0], [.], error(.)", in, api.MaxFuel)
	o.Out[0].List[0].List[0] = value.Text("changed")
	o.Val.List[1].Fields[0].Key = "changed"
	o.Out[3].List[0].List[0] = value.Text("changed")
	if !value.Same(in, val(t, "[[1], {a: [2]}]")) || !value.Same(o.Out[1], in) || !value.Same(o.Out[2], val(t, "[1]")) {
		t.Error("shared memory")
	}
}
