package merge

import (
	"math/rand"
	"reflect"
	"testing"

	"datakit/api"
	"datakit/brace"
	"datakit/limit"
	"datakit/path"
	"datakit/value"
)

func val(t *testing.T, src string) api.Value {
	t.Helper()
	v, _, err := brace.Read(src, limit.Usual())
	if err != api.OK {
		t.Fatal(src, err)
	}
	return v
}

func show(v api.Value) string {
	s, _ := brace.Inline(v)
	return s
}

// P57.1, P57.2
func TestOverlayDelta(t *testing.T) {
	for _, test := range [][3]string{{"{a: 1, b: {c: 2}}", "{a: null, b: {d: 3}}", "{b: {c: 2, d: 3}}"}, {"{a: 1}", "5", "5"}, {"5", "{a: 1, b: null, c: {d: null}}", "{a: 1, c: {}}"}, {"{a: {b: 1}}", "{a: [1]}", "{a: [1]}"}, {"{a: 1, b: 2}", "{b: 3, a: 4, c: 5}", "{a: 4, b: 3, c: 5}"}, {"{a: null}", "{}", "{a: null}"}, {"{a: 1}", "null", "null"}, {"{a: 1}", "{a: {b: null, c: 1}}", "{a: {c: 1}}"}, {"1", "{}", "{}"}} {
		if got := show(Overlay(val(t, test[0]), val(t, test[1]))); got != test[2] {
			t.Error(test, got)
		}
	}
	for _, test := range [][3]string{{"{a: 1}", "{b: 2}", "{a: null, b: 2}"}, {"{a: 1}", "{a: null}", ""}, {"{a: 1}", "{a: 1.0}", "{}"}, {"1", "2", "2"}, {"1", "null", "null"}, {"1", "{a: {b: 1}}", "{a: {b: 1}}"}, {"{a: {b: 1, c: 2}, d: 1}", "{d: 1, a: {c: 3}}", "{a: {b: null, c: 3}}"}, {"{a: {b: 1}}", "{a: {b: null}}", ""}, {"{}", "{a: null}", ""}, {"{a: null}", "{a: null}", "{}"}, {"{a: [null]}", "{a: [1, null]}", "{a: [1, null]}"}, {"{}", "{a: {b: null}}", ""}} {
		v, ok := Delta(val(t, test[0]), val(t, test[1]))
		if ok != (test[2] != "") || ok && show(v) != test[2] || !ok && !reflect.DeepEqual(v, api.Value{}) {
			t.Error(test, show(v), ok)
		}
	}
}

// P57.3, P57.4
func TestThree(t *testing.T) {
	for _, test := range []struct {
		base, ours, other, want string
		conflicts               []string
	}{
		{"{a: 1, b: 1}", "{a: 2, b: 1}", "{a: 1}", "{a: 2}", nil}, {"{a: 1}", "{a: 2}", "{a: 3}", "{a: 2}", []string{".a"}}, {"1", "2", "2", "2", nil}, {"1", "1", "2", "2", nil}, {"1", "2", "3", "2", []string{"."}}, {"{a: 1}", "{}", "{a: 2}", "{}", []string{".a"}}, {"{}", "{a: 1, x: 2}", "{y: 3, a: 1}", "{a: 1, x: 2, y: 3}", nil}, {"{}", "{a: {b: 1}}", "{a: {c: 2}}", "{a: {b: 1, c: 2}}", nil}, {"{a: 1}", "{a: {b: 1}}", "{a: {c: 2}}", "{a: {b: 1}}", []string{".a"}}, {"{a: {x: 1, y: 1}, b: 0}", "{a: {x: 2, y: 1}, b: 1}", "{a: {x: 3, y: 2}, b: 2}", "{a: {x: 2, y: 2}, b: 1}", []string{".a.x", ".b"}}, {"[1]", "[1, 2]", "[0, 1]", "[1, 2]", []string{"."}}, {"{z: 1, a: 1}", "{a: 2}", "{a: 1, z: 1, n: 0}", "{a: 2, n: 0}", nil},
	} {
		base, ours, other := val(t, test.base), val(t, test.ours), val(t, test.other)
		v, l := Three(base, ours, other)
		if show(v) != test.want || len(l) != len(test.conflicts) {
			t.Error(test, show(v), l)
			continue
		}
		for i, c := range l {
			if path.Text(c.Path) != test.conflicts[i] {
				t.Error(test, l)
			}
		}
		if w, n := Resolve(base, ours, other, nil); n != len(l) || !value.Same(v, w) {
			t.Error(test, show(w))
		}
	}
	base, ours, other := val(t, "{a: 1, b: 1, c: 1}"), val(t, "{a: 2, b: 2}"), val(t, "{a: 3, c: 5}")
	v, l := Three(base, ours, other)
	if show(v) != "{a: 2, b: 2}" || len(l) != 3 || len(l[2].Ours) != 0 || len(l[1].Other) != 0 || show(l[2].Other[0]) != "5" || show(l[0].Base[0]) != "1" {
		t.Error(show(v), l)
	}
	for _, test := range []struct {
		take []bool
		want string
	}{{[]bool{true}, "{a: 3, b: 2}"}, {[]bool{false, true}, "{a: 2}"}, {[]bool{true, true, true, true}, "{a: 3, c: 5}"}, {[]bool{false, false, true}, "{a: 2, b: 2, c: 5}"}} {
		if v, n := Resolve(base, ours, other, test.take); show(v) != test.want || n != 3 {
			t.Error(test, show(v), n)
		}
	}
	l[0].Base[0] = value.Text("x")
	if show(base) != "{a: 1, b: 1, c: 1}" {
		t.Error("shared memory")
	}
}

func random(r *rand.Rand, depth int) api.Value {
	if depth == 0 || r.Intn(3) == 0 {
		return []api.Value{value.Int(1), value.Int(2), value.Null(), value.List(value.Int(1))}[r.Intn(4)]
	}
	v := api.Value{Kind: api.VMap}
	for _, i := range r.Perm(3)[:r.Intn(4)] {
		v.Fields = append(v.Fields, api.Field{Key: string(rune('a' + i)), Val: random(r, depth-1)})
	}
	return v
}

// P57.5, W8
func TestConsequences(t *testing.T) {
	r := rand.New(rand.NewSource(1))
	for range 10000 {
		a, b, c := random(r, 3), random(r, 3), random(r, 3)
		if d, ok := Delta(a, b); ok && !value.Equal(Overlay(a, d), b) {
			t.Fatal(show(a), show(b), show(d))
		}
		o := Overlay(a, b)
		if !value.Same(Overlay(o, b), o) {
			t.Fatal(show(a), show(b))
		}
		for i, args := range [][4]api.Value{{a, b, b, b}, {a, b, a, b}, {a, a, b, b}} {
			v, l := Three(args[0], args[1], args[2])
			if len(l) > 0 || !value.Equal(v, args[3]) || i < 2 && !value.Same(v, args[3]) {
				t.Fatal(show(a), show(b))
			}
		}
		v, l := Three(a, b, c)
		w, m := Three(a, c, b)
		if (len(l) == 0) != (len(m) == 0) || len(l) == 0 && !value.Equal(v, w) {
			t.Fatal(show(a), show(b), show(c))
		}
	}
}
