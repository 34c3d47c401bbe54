package builtin

import (
	"math/rand"
	"reflect"
	"slices"
	"strings"
	"testing"

	"datakit/api"
	"datakit/brace"
	"datakit/limit"
	"datakit/value"
)

func val(t *testing.T, src string) api.Value {
	t.Helper()
	v, at, err := brace.Read(src, limit.Usual())
	if err != api.OK {
		t.Fatal(src, at, err)
	}
	return v
}

func show(v api.Value) string {
	s, _ := brace.Inline(v)
	return s
}

// P37.1
func TestNames(t *testing.T) {
	names := Names()
	if len(names) != 35 || !slices.IsSorted(names) {
		t.Error(len(names))
	}
	for name, want := range map[string]int{"add": 0, "_group": 0, "values": 0, "has": 1, "test": 1, "error": 1, "quo": 2, "_range": 2} {
		if n, ok := Arity(name); n != want || !ok || !slices.Contains(names, name) {
			t.Error(name)
		}
	}
	for _, name := range []string{"", "path", "map", "ADD", "add all"} {
		if n, ok := Arity(name); n != 0 || ok {
			t.Error(name)
		}
		if _, err := Apply(name, api.Value{}, nil); err != api.ErrName {
			t.Error(err)
		}
	}
	for _, name := range names {
		if v, err := Apply(name, api.Value{}, make([]api.Value, 3)); err != api.ErrArity || !value.Same(v, api.Value{}) {
			t.Error(name, err)
		}
	}
}

// check compares a result with a source, or with the name of an error.
func check(t *testing.T, what, want string, v api.Value, err api.Errno) {
	t.Helper()
	got := show(v)
	if err != api.OK {
		if !value.Same(v, api.Value{}) && err != api.ErrUser {
			t.Errorf("%s: a value with %v", what, err)
		}
		got = err.Error()
	}
	if got != want {
		t.Errorf("%s: %s, not %s", what, got, want)
	}
}

// P37.2, P37.3
func TestOperators(t *testing.T) {
	for _, test := range [][4]string{
		{"1", "+", "2", "3"}, {"null", "+", "true", "true"}, {"{a: 1}", "+", "null", "{a: 1}"}, {"null", "+", "null", "null"}, {`"a"`, "+", `"b"`, `"ab"`}, {"[1]", "+", "[2]", "[1, 2]"}, {"{a: 1, b: 2}", "+", "{b: 3, c: 4}", "{a: 1, b: 3, c: 4}"}, {"true", "+", "true", "kind"}, {"1", "+", `"a"`, "kind"}, {"b\"AA==\"", "+", "b\"AA==\"", "kind"}, {"1e400", "+", "1", "range"},
		{"3", "-", "5", "-2"}, {"[1, 2, 1, [3]]", "-", "[1, [3]]", "[2]"}, {"null", "-", "1", "kind"}, {`"a"`, "-", `"a"`, "kind"}, {"[{a: 1, b: 2}]", "-", "[{b: 2, a: 1}]", "[]"}, {"2", "*", "1.5", "3"}, {`"a"`, "*", "2", "kind"}, {"1", "/", "8", "0.125"}, {"1", "/", "3", "inexact"}, {"1", "/", "0", "divide"}, {`"a,b,,c"`, "/", `","`, `["a", "b", "", "c"]`}, {`"aaa"`, "/", `"aa"`, `["", "a"]`}, {`"éb"`, "/", `""`, `["é", "b"]`}, {`""`, "/", `""`, "[]"}, {`""`, "/", `","`, `[""]`}, {"[1]", "/", "[1]", "kind"}, {"-7", "%", "3", "2"}, {"7", "%", "-3", "-2"}, {"1.5", "%", "1", "inexact"}, {"1", "%", "0", "divide"}, {"1", "%", "0.5", "inexact"}, {"1", "^", "1", "argument"}, {"1", "", "1", "argument"},
	} {
		v, err := Arith(test[1], val(t, test[0]), val(t, test[2]))
		check(t, strings.Join(test[:3], " "), test[3], v, err)
	}
	for _, test := range [][3]string{{"1", "==", "1.0"}, {"1", "!=", "2"}, {"1", "<", `"a"`}, {"[1]", "<=", "[1, 2]"}, {"true", ">", "false"}, {"{a: 1, b: 2}", ">=", "{b: 2, a: 1}"}} {
		if ok, err := Compare(test[1], val(t, test[0]), val(t, test[2])); !ok || err != api.OK {
			t.Error(test)
		}
		not := map[string]string{"==": "!=", "!=": "==", "<": ">=", "<=": ">", ">": "<=", ">=": "<"}[test[1]]
		if ok, err := Compare(not, val(t, test[0]), val(t, test[2])); ok || err != api.OK {
			t.Error(test)
		}
	}
	if ok, err := Compare("=", api.Value{}, api.Value{}); ok || err != api.ErrArg {
		t.Error(err)
	}
	v, err := Neg(value.Int(3))
	check(t, "-3", "-3", v, err)
	v, err = Neg(value.Text("a"))
	check(t, "-a", "kind", v, err)
	long := value.Text(strings.Repeat("x", api.MaxText))
	v, err = Arith("+", long, value.Text("x"))
	check(t, "long", "size", v, err)
	big := api.Value{Kind: api.VList, List: make([]api.Value, 40000)}
	v, err = Arith("+", big, big)
	check(t, "big", "size", v, err)
	v, err = Arith("/", long, value.Text(""))
	check(t, "big", "size", v, err)
}

// P37.4 to P37.6
func TestParts(t *testing.T) {
	for _, test := range [][3]string{{"[1, 2, 3]", "-1", "3"}, {"[1, 2, 3]", "3", "null"}, {"[1, 2, 3]", "-4", "null"}, {"[1]", "0.5", "inexact"}, {"[1]", "1e300", "null"}, {"[1]", "-1e300", "null"}, {"{a: [1]}", `"a"`, "[1]"}, {"{a: 1}", `"b"`, "null"}, {"null", `"b"`, "null"}, {"null", "7", "null"}, {"null", "0.5", "inexact"}, {"null", "null", "kind"}, {"{a: 1}", "0", "kind"}, {"[1]", `"a"`, "kind"}, {`"a"`, "0", "kind"}, {"1", "0", "kind"}} {
		v, err := Index(val(t, test[0]), val(t, test[1]))
		check(t, test[0]+" at "+test[1], test[2], v, err)
	}
	for _, test := range [][4]string{{`"abc"`, "1", "null", `"bc"`}, {`"abc"`, "-2", "-1", `"b"`}, {`"éüx"`, "null", "2", `"éü"`}, {"[1, 2, 3]", "1", "2", "[2]"}, {"[1, 2, 3]", "-9", "9", "[1, 2, 3]"}, {"[1, 2, 3]", "2", "1", "[]"}, {"[1, 2, 3]", "-1e99", "1e99", "[1, 2, 3]"}, {"[1, 2, 3]", "1e99", "null", "[]"}, {"null", "1", "2", "null"}, {"null", "0.5", "null", "inexact"}, {"1", "true", "null", "kind"}, {"[1]", "true", "0.5", "kind"}, {"[1]", "0.5", "true", "inexact"}, {"[1]", "null", "true", "kind"}, {"{}", "null", "null", "kind"}} {
		v, err := Slice(val(t, test[0]), val(t, test[1]), val(t, test[2]))
		check(t, strings.Join(test[:3], " "), test[3], v, err)
	}
	for src, want := range map[string]string{"[1, [2]]": "[1, [2]]", "{b: 1, a: [2]}": "[1, [2]]", "[]": "[]"} {
		l, err := Each(val(t, src))
		check(t, src, want, value.List(l...), err)
	}
	for _, src := range []string{"null", "1", `"a"`} {
		if l, err := Each(val(t, src)); l != nil || err != api.ErrKind {
			t.Error(src, err)
		}
	}
}

// P37.7
func TestApply(t *testing.T) {
	for _, test := range [][]string{
		{"type", "null", "", `"null"`}, {"type", "{}", "", `"` + value.Name(api.VMap) + `"`}, {"not", "null", "", "true"}, {"not", "0", "", "false"}, {"error", "1", "[2]", "user"},
		{"length", "null", "", "0"}, {"length", `"éa"`, "", "2"}, {"length", "b\"AAAA\"", "", "3"}, {"length", "[1, 2]", "", "2"}, {"length", "{a: 1}", "", "1"}, {"length", "1", "", "kind"}, {"length", "true", "", "kind"},
		{"keys", "{b: 1, a: 2}", "", `["a", "b"]`}, {"keys", "[7, 8]", "", "[0, 1]"}, {"keys", "1", "", "kind"}, {"values", "{b: 1, a: 2}", "", "[1, 2]"}, {"values", "[7]", "", "[7]"}, {"values", "null", "", "kind"},
		{"has", "{a: 1}", `"a"`, "true"}, {"has", "{a: 1}", `"b"`, "false"}, {"has", "[7]", "0", "true"}, {"has", "[7]", "1", "false"}, {"has", "[7]", "-1", "false"}, {"has", "[7]", "0.5", "false"}, {"has", "[7]", `"a"`, "kind"}, {"has", "{}", "0", "kind"}, {"has", "1", "1", "kind"},
		{"tostring", "null", "", `"null"`}, {"tostring", "1.50", "", `"1.5"`}, {"tostring", "true", "", `"true"`}, {"tostring", `"a"`, "", `"a"`}, {"tostring", "t\"10:00:00\"", "", `"10:00:00"`}, {"tostring", "b\"AAAA\"", "", `"AAAA"`}, {"tostring", "[]", "", "kind"}, {"tonumber", "1", "", "1"}, {"tonumber", `"1e2"`, "", "100"}, {"tonumber", `"x"`, "", "syntax"}, {"tonumber", `"1e999"`, "", "range"}, {"tonumber", "true", "", "kind"}, {"totime", `"10:00:00"`, "", `t"10:00:00"`}, {"totime", `"25:00:00"`, "", "range"}, {"totime", `"x"`, "", "syntax"}, {"totime", "1", "", "kind"}, {"totime", "t\"10:00:00\"", "", `t"10:00:00"`}, {"tobytes", `"AAAA"`, "", `b"AAAA"`}, {"tobytes", `"AAA"`, "", "truncated"}, {"tobytes", "b\"\"", "", `b""`}, {"tobytes", "1", "", "kind"},
		{"abs", "-1.5", "", "1.5"}, {"abs", `"a"`, "", "kind"}, {"floor", "-1.5", "", "-2"}, {"ceil", "-1.5", "", "-1"}, {"round", "-1.5", "", "-2"}, {"round", "0.4", "", "0"}, {"round", "null", "", "kind"}, {"quo", "2", "3 2", "0.67"}, {"quo", "1", "8 2", "0.12"}, {"quo", "1", "0 2", "divide"}, {"quo", "1", "3 0.5", "inexact"}, {"quo", "1", "3 1e30", "range"}, {"quo", "1", "3 999", "argument"}, {"quo", "1", "true 1", "kind"}, {"quo", "true", "1 1", "kind"},
		{"add", "[1, 2, 3]", "", "6"}, {"add", "[]", "", "null"}, {"add", `["a", null, "b"]`, "", `"ab"`}, {"add", "[[1], [2]]", "", "[1, 2]"}, {"add", "[{a: 1}, {b: 2}, {a: 3}]", "", "{a: 3, b: 2}"}, {"add", `[1, "a"]`, "", "kind"}, {"add", "[true]", "", "true"}, {"add", "[true, true]", "", "kind"}, {"add", "{}", "", "kind"}, {"any", "[false, 0]", "", "true"}, {"any", "[false, null]", "", "false"}, {"any", "[]", "", "false"}, {"all", "[]", "", "true"}, {"all", "[1, null]", "", "false"}, {"all", "1", "", "kind"},
		{"min", "[2, 1.0, 1]", "", "1"}, {"min", "[]", "", "null"}, {"max", "[{a: 1, b: 1}, {b: 1, a: 1}]", "", "{b: 1, a: 1}"}, {"min", "[{a: 1, b: 1}, {b: 1, a: 1}]", "", "{a: 1, b: 1}"}, {"max", "1", "", "kind"}, {"sort", "[2, null, 1, {b: 1, a: 1}, {a: 1, b: 1}]", "", "[null, 1, 2, {b: 1, a: 1}, {a: 1, b: 1}]"}, {"unique", "[2, 1, 2, {b: 1, a: 1}, {a: 1, b: 1}]", "", "[1, 2, {b: 1, a: 1}]"}, {"reverse", "[1, 2]", "", "[2, 1]"}, {"reverse", `"éa"`, "", `"aé"`}, {"reverse", "{}", "", "kind"}, {"flatten", "[1, [2, [], [[3]]], {a: [4]}]", "", "[1, 2, 3, {a: [4]}]"}, {"flatten", "{}", "", "kind"},
		{"contains", `"abc"`, `"bc"`, "true"}, {"contains", "[1, 2]", "[2, 2]", "true"}, {"contains", "[1, 2]", "[3]", "false"}, {"contains", "{a: 1, b: 2}", "{b: 2}", "true"}, {"contains", "{a: 1}", "{a: 2}", "false"}, {"contains", "[1]", `"a"`, "kind"}, {"contains", "1", "1", "kind"}, {"startswith", `"abc"`, `"ab"`, "true"}, {"endswith", `"abc"`, `"ab"`, "false"}, {"startswith", `"abc"`, "1", "kind"}, {"split", `"a b"`, `" "`, `["a", "b"]`}, {"split", "[1]", "[1]", "kind"}, {"join", `["a", "b"]`, `", "`, `"a, b"`}, {"join", "[]", `","`, `""`}, {"join", `["a", 1]`, `","`, "kind"}, {"join", `["a"]`, "1", "kind"}, {"test", `"aab"`, `"a*b"`, "true"}, {"test", `"xaab"`, `"a*b"`, "false"}, {"test", `"a"`, `"("`, "syntax"}, {"test", "1", `"a"`, "kind"},
		{"to_entries", "{b: 1, a: 2}", "", `[{key: "b", value: 1}, {key: "a", value: 2}]`}, {"to_entries", "[]", "", "kind"}, {"from_entries", `[{key: "b", value: 1}, {key: "a"}, {key: "b", value: 3}]`, "", "{b: 3, a: null}"}, {"from_entries", "[{key: 1}]", "", "kind"}, {"from_entries", "[{value: 1}]", "", "kind"}, {"from_entries", "[1]", "", "kind"}, {"from_entries", "{}", "", "kind"}, {"_group", `[[1, "a"], [0, "b"], [1, "c"]]`, "", `[["b"], ["a", "c"]]`}, {"_group", "[[1]]", "", "kind"}, {"_group", "[1]", "", "kind"}, {"_group", "[]", "", "[]"}, {"_range", "null", "1 3.5", "[1, 2, 3]"}, {"_range", "null", "3 1", "[]"}, {"_range", "null", "0 70000", "size"}, {"_range", "null", "1e130 2e130", "range"}, {"_range", "null", `1 "a"`, "kind"},
	} {
		var args []api.Value
		if test[0] == "quo" || test[0] == "_range" {
			for _, arg := range strings.Fields(test[2]) {
				args = append(args, val(t, arg))
			}
		} else if test[2] != "" {
			args = append(args, val(t, test[2]))
		}
		v, err := Apply(test[0], val(t, test[1]), args)
		check(t, strings.Join(test[:3], " "), test[3], v, err)
		if test[0] == "error" && !value.Same(v, args[0]) {
			t.Error("error")
		}
	}
	if v, err := Apply("_range", api.Value{}, []api.Value{value.Int(0), value.Int(api.MaxNodes - 1)}); err != api.OK || len(v.List) != api.MaxNodes-1 {
		t.Error(err)
	}
	deep := value.Int(1)
	for range 46 {
		deep = value.List(deep)
	}
	v, err := Apply("to_entries", api.Value{Kind: api.VMap, Fields: []api.Field{{Key: "a", Val: deep}}}, nil)
	check(t, "deep", "depth", v, err)
	v, err = Apply("tostring", value.Bytes(make([]byte, api.MaxText)), nil)
	check(t, "long", "size", v, err)
	long := value.Text(strings.Repeat("x", 40000))
	v, err = Apply("join", value.List(long, long), []api.Value{value.Text("")})
	check(t, "long", "size", v, err)
	v, err = Apply("add", value.List(long, long, value.Int(1)), nil)
	check(t, "long", "size", v, err)
	v, err = Apply("from_entries", value.List(api.Value{Kind: api.VMap, Fields: []api.Field{{Key: "key", Val: long}}}), nil)
	check(t, "long", "size", v, err)
}

func random(r *rand.Rand, depth int) api.Value {
	k := r.Intn(7)
	if depth == 0 {
		k = r.Intn(4)
	}
	switch k {
	case 0:
		return value.Null()
	case 1:
		return value.Bool(r.Intn(2) == 0)
	case 2:
		return value.Int(r.Intn(5))
	case 3:
		return value.Text([]string{"a", "", "b"}[r.Intn(3)])
	case 4, 5:
		v := api.Value{Kind: api.VList}
		for range r.Intn(4) {
			v.List = append(v.List, random(r, depth-1))
		}
		return v
	}
	v := api.Value{Kind: api.VMap}
	for _, i := range r.Perm(3)[:r.Intn(4)] {
		v.Fields = append(v.Fields, api.Field{Key: []string{"a", "key", "value"}[i], Val: random(r, depth-1)})
	}
	return v
}

// P37.8, R5
func TestConsequences(t *testing.T) {
	r := rand.New(rand.NewSource(1))
	names := Names()
	for range 20000 {
		a, b, c := random(r, 3), random(r, 3), random(r, 3)
		before := show(a) + show(b)
		if a.Kind == b.Kind && b.Kind == c.Kind && (a.Kind == api.VText || a.Kind == api.VList) {
			ab, _ := Arith("+", a, b)
			bc, _ := Arith("+", b, c)
			x, _ := Arith("+", ab, c)
			y, _ := Arith("+", a, bc)
			if !value.Same(x, y) {
				t.Fatal("+")
			}
		}
		if a.Kind == api.VList {
			s, _ := Apply("sort", a, nil)
			again, _ := Apply("sort", s, nil)
			if !value.Same(s, again) || len(s.List) != len(a.List) || !slices.IsSortedFunc(s.List, value.Cmp) {
				t.Fatal("sort")
			}
			one, _ := Apply("add", a, nil)
			all, err := api.Value{}, api.OK
			for _, x := range a.List {
				if all, err = Arith("+", all, x); err != api.OK {
					break
				}
			}
			if !value.Same(one, all) {
				t.Fatal("add")
			}
		}
		if a.Kind == api.VMap {
			e, _ := Apply("to_entries", a, nil)
			if back, err := Apply("from_entries", e, nil); err != api.OK || !value.Same(back, a) {
				t.Fatal("entries")
			}
		}
		var results []api.Value
		name := names[r.Intn(len(names))]
		n, _ := Arity(name)
		v, err := Apply(name, a, []api.Value{b, c}[:n])
		if err != api.OK && err != api.ErrUser && !reflect.DeepEqual(v, api.Value{}) {
			t.Fatal(name, err)
		}
		w, _ := Arith(string("+-*/%"[r.Intn(5)]), a, b)
		x, _ := Index(a, b)
		y, _ := Slice(a, b, c)
		l, _ := Each(a)
		results = append(append(results, v, w, x, y), l...)
		for _, v := range results {
			if value.Check(v) != api.OK {
				t.Fatal(name)
			}
			for i := range v.List {
				v.List[i] = value.Text("changed")
			}
			for i := range v.Fields {
				v.Fields[i].Val = value.Text("changed")
			}
		}
		if show(a)+show(b) != before {
			t.Fatal(name, "shared memory")
		}
	}
}
