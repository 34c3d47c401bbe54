package qpath

import (
	"math/rand"
	"slices"
	"strings"
	"testing"

	"datakit/access"
	"datakit/api"
	"datakit/brace"
	"datakit/limit"
	"datakit/path"
	"datakit/value"
)

func val(t *testing.T, src string) api.Value {
	t.Helper()
	v, _, err := brace.Read(src, limit.Usual())
	if err != api.OK {
		t.Fatal(src, err)
	}
	return v
}

func steps(t *testing.T, text string) []api.Step {
	t.Helper()
	p, err := path.Parse(text)
	if err != api.OK {
		t.Fatal(text)
	}
	return p
}

func check(t *testing.T, what, want string, v api.Value, err api.Errno) {
	t.Helper()
	got, _ := brace.Inline(v)
	if err != api.OK {
		if !value.Same(v, api.Value{}) {
			t.Error(what, "a value with an error")
		}
		got = err.Error()
	}
	if got != want {
		t.Errorf("%s: %s, not %s", what, got, want)
	}
}

// P39.1, P39.6
func TestStepsAndPaths(t *testing.T) {
	for src, want := range map[string]api.Step{`"a"`: path.Key("a"), `""`: path.Key(""), "0": path.At(0), "65536": path.At(65536), "120": path.At(120)} {
		if got, err := Step(val(t, src)); got != want || err != api.OK {
			t.Error(src, got, err)
		}
	}
	for src, want := range map[string]api.Errno{"-1": api.ErrRange, "0.5": api.ErrRange, "65537": api.ErrRange, "1e300": api.ErrRange, "null": api.ErrKind, "[]": api.ErrKind, "true": api.ErrKind, `"` + strings.Repeat("k", 1025) + `"`: api.ErrSize} {
		if got, err := Step(val(t, src)); got != (api.Step{}) || err != want {
			t.Error(src, got, err)
		}
		if p, err := Path(value.List(value.Int(1), val(t, src))); p != nil || err != want {
			t.Error(src, err)
		}
	}
	p := steps(t, ".a[2].\"b c\"")
	if v := Value(p); !value.Same(v, val(t, `["a", 2, "b c"]`)) {
		t.Error(v)
	}
	if back, err := Path(Value(p)); err != api.OK || !slices.Equal(back, p) {
		t.Error(back, err)
	}
	if _, err := Path(value.Text("a")); err != api.ErrKind {
		t.Error(err)
	}
	many := api.Value{Kind: api.VList, List: make([]api.Value, 49)}
	if _, err := Path(many); err != api.ErrSize {
		t.Error(err)
	}
}

// P39.2, P39.3
func TestGetPut(t *testing.T) {
	for _, test := range [][3]string{{"{a: [1]}", ".a[0]", "1"}, {"{a: [1]}", ".a[1]", "null"}, {"{a: [1]}", ".b.c[0]", "null"}, {"null", ".a", "null"}, {"{a: 1}", ".a.b", "kind"}, {"{a: 1}", ".[0]", "kind"}, {"[1]", ".a", "kind"}, {"7", ".", "7"}, {"{a: null}", ".a.b[3]", "null"}} {
		v, err := Get(val(t, test[0]), steps(t, test[1]))
		check(t, test[0]+test[1], test[2], v, err)
	}
	for _, test := range [][4]string{{"null", ".a[2]", "1", "{a: [null, null, 1]}"}, {"{a: 7}", ".a.b", "1", "kind"}, {"{a: 7}", ".", "1", "1"}, {"{a: 7}", ".b", "1", "{a: 7, b: 1}"}, {"{a: 7, b: 8}", ".a", "1", "{a: 1, b: 8}"}, {"[1, 2]", ".[1]", "3", "[1, 3]"}, {"[1]", ".[2].x", "3", "[1, null, {x: 3}]"}, {"[1]", ".a", "3", "kind"}, {"[]", ".[65535]", "1", "size"}, {"[]", ".[65536]", "1", "size"}, {"[]", ".[65536].a[0]", "1", "size"}, {"1", ".a", "1", "kind"}} {
		v, err := Put(val(t, test[0]), steps(t, test[1]), val(t, test[2]))
		check(t, strings.Join(test[:3], " "), test[3], v, err)
	}
	if v, err := Put(value.Null(), []api.Step{path.At(65534)}, value.Int(1)); err != api.OK || len(v.List) != 65535 {
		t.Error(err)
	}
	var long []api.Step
	for range 48 {
		long = append(long, path.At(0))
	}
	if _, err := Put(value.Null(), long, value.Int(1)); err != api.ErrDepth {
		t.Error(err)
	}
	if _, err := Put(value.Null(), long[1:], value.Int(1)); err != api.OK {
		t.Error(err)
	}
	if v, err := Put(value.Null(), []api.Step{path.At(1 << 60)}, value.Int(1)); err != api.ErrSize || !value.Same(v, api.Value{}) {
		t.Error(err)
	}
	if _, err := Put(value.Null(), []api.Step{path.Key("a")}, api.Value{Kind: 9}); err != api.ErrKind {
		t.Error(err)
	}
}

// P39.4
func TestDelete(t *testing.T) {
	for _, test := range [][3]string{{"[1, 2, {x: 3}]", ".[0] .[2] .[2].x", "[2]"}, {"[1, 2, 3]", ".[0] .[1]", "[3]"}, {"[1, 2, 3]", ".[1] .[0] .[1] .[9]", "[3]"}, {"{a: 1, b: {c: 2}}", ".b.c .x.y", "{a: 1, b: {}}"}, {"{a: 1}", ". .a", "null"}, {"{a: 1}", "", "{a: 1}"}, {"{a: 1}", ".a .a.b", "kind"}, {"{a: 1}", ".a.b .", "kind"}, {"null", ".a[0]", "null"}, {"{a: null}", ".a.b", "{a: null}"}, {"[[1, 2], [3]]", ".[0][1] .[1][0]", "[[1], []]"}} {
		var l [][]api.Step
		for _, p := range strings.Fields(test[1]) {
			l = append(l, steps(t, p))
		}
		v, err := Delete(val(t, test[0]), l)
		check(t, test[0]+test[1], test[2], v, err)
	}
	if _, err := Delete(val(t, "{a: 1}"), [][]api.Step{{path.At(-1)}, {path.At(0)}}); err != api.ErrArg {
		t.Error(err)
	}
	if _, err := Delete(val(t, "{a: 1}"), [][]api.Step{{path.At(0)}, {path.At(-1)}}); err != api.ErrKind {
		t.Error(err)
	}
}

// P39.5
func TestModify(t *testing.T) {
	calls := ""
	grow := func(x api.Value) (api.Value, bool, api.Errno) {
		s, _ := brace.Inline(x)
		calls += s + ";"
		if s == "1" {
			return api.Value{}, false, api.OK
		}
		if s == "9" {
			return x, true, api.ErrUser
		}
		return value.List(x), true, api.OK
	}
	for _, test := range [][4]string{{"[1, 2]", ".[0] .[1]", "[[2]]", "1;2;"}, {"[1, 2]", ".[1] .[1]", "[1, [[2]]]", "2;[2];"}, {"null", ".a", "{a: [null]}", "null;"}, {"{a: 2}", ".a.b", "kind", ""}, {"[9]", ".[0]", "user", "9;"}, {"{a: 2}", ".", "[{a: 2}]", "{a: 2};"}, {"1", ".", "null", "1;"}, {"[1, 1, 2]", ".[0] .[1] .[2]", "[[2]]", "1;1;2;"}, {"[1]", ".[0] .", "[]", "1;[1];"}, {"{a: 1, b: {c: 1}}", ".b.c .a", "{b: {}}", "1;1;"}} {
		calls = ""
		var l [][]api.Step
		for _, p := range strings.Fields(test[1]) {
			l = append(l, steps(t, p))
		}
		v, err := Modify(val(t, test[0]), l, grow)
		check(t, test[0]+test[1], test[2], v, err)
		if calls != test[3] {
			t.Error(test, calls)
		}
	}
	plus := func(x api.Value) (api.Value, bool, api.Errno) {
		if x.Num.Digits == "1" {
			return x, false, api.OK
		}
		return value.Int(3), true, api.OK
	}
	v, err := Modify(val(t, "[1, 2]"), [][]api.Step{{path.At(0)}, {path.At(1)}}, plus)
	check(t, "example", "[3]", v, err)
	deep := func(x api.Value) (api.Value, bool, api.Errno) {
		for range 47 {
			x = value.List(x)
		}
		return x, true, api.OK
	}
	v, err = Modify(val(t, "[1]"), [][]api.Step{{path.At(0)}}, deep)
	check(t, "deep", "depth", v, err)
}

func random(r *rand.Rand, depth int) api.Value {
	if depth == 0 || r.Intn(3) == 0 {
		return []api.Value{value.Null(), value.Int(1), value.Text("a")}[r.Intn(3)]
	}
	v := api.Value{Kind: api.VList + r.Intn(2)}
	for i := range r.Intn(4) {
		x := random(r, depth-1)
		if v.Kind == api.VList {
			v.List = append(v.List, x)
		} else {
			v.Fields = append(v.Fields, api.Field{Key: string(rune('a' + i)), Val: x})
		}
	}
	return v
}

func randomPath(r *rand.Rand) []api.Step {
	var p []api.Step
	for range r.Intn(4) {
		p = append(p, []api.Step{path.At(r.Intn(3)), path.Key(string(rune('a' + r.Intn(3))))}[r.Intn(2)])
	}
	return p
}

// P39.7, R5
func TestConsequences(t *testing.T) {
	r := rand.New(rand.NewSource(1))
	for range 20000 {
		v, x := random(r, 3), random(r, 2)
		before, _ := brace.Inline(value.List(v, x))
		p := randomPath(r)
		if w, err := Put(v, p, x); err == api.OK {
			y, err := Get(w, p)
			again, _ := Put(w, p, x)
			if err != api.OK || !value.Same(x, y) || !value.Same(w, again) {
				t.Fatal(v, p)
			}
		}
		if back, err := Path(Value(p)); err != api.OK || !slices.Equal(back, p) {
			t.Fatal(p)
		}
		var l [][]api.Step
		for range r.Intn(4) {
			l = append(l, randomPath(r))
		}
		w, err := Delete(v, l)
		if err == api.OK {
			slices.Reverse(l)
			if u, _ := Delete(v, l); !value.Same(u, w) {
				t.Fatal(v, l)
			}
			want := value.Size(v)
			gone := 0
			for _, q := range access.Paths(v) {
				if slices.ContainsFunc(l, func(p []api.Step) bool { return path.Under(q, p) }) {
					gone++
				}
			}
			if gone < want && value.Size(w) != want-gone {
				t.Fatal(v, l, w)
			}
		}
		for i := range w.List {
			w.List[i] = value.Text("changed")
		}
		if after, _ := brace.Inline(value.List(v, x)); after != before {
			t.Fatal("shared memory")
		}
	}
}
