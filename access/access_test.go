package access

import (
	"math/rand"
	"testing"

	"datakit/api"
	"datakit/path"
	"datakit/value"
)

func fields(kv ...any) api.Value {
	v := api.Value{Kind: api.VMap}
	for i := 0; i < len(kv); i += 2 {
		v.Fields = append(v.Fields, api.Field{Key: kv[i].(string), Val: kv[i+1].(api.Value)})
	}
	return v
}

var n = value.Int

func sample() api.Value {
	return fields("a", value.List(n(7), n(8)), "b", fields("c", value.Null()))
}

func at(t *testing.T, s string) []api.Step {
	p, e := path.Parse(s)
	if e != api.OK {
		t.Fatalf("%s: %v", s, e)
	}
	return p
}

func expect(t *testing.T, what string, got api.Value, e api.Errno, want api.Value, we api.Errno) {
	t.Helper()
	if !value.Same(got, want) || e != we {
		t.Errorf("%s: %v, %v", what, got, e)
	}
	if v := sample(); e == api.OK && len(v.Fields) != 2 {
		t.Error("the argument changed")
	}
}

var invalid = []api.Step{{Key: "a", Index: 1}}

// P9.1, P9.2
func TestGet(t *testing.T) {
	v := sample()
	for s, c := range map[string]struct {
		v api.Value
		e api.Errno
	}{".": {v, 0}, ".a[0]": {n(7), 0}, ".a[2]": {api.Value{}, api.ErrNotFound}, ".a.b": {api.Value{}, api.ErrKind}, ".x": {api.Value{}, api.ErrNotFound}, ".[0]": {api.Value{}, api.ErrKind}, ".x[0].y": {api.Value{}, api.ErrNotFound}, ".a[0].x": {api.Value{}, api.ErrKind}, ".b.c": {value.Null(), 0}, ".b.c.d": {value.Null(), api.ErrKind}} {
		got, e := Get(v, at(t, s))
		expect(t, "Get "+s, got, e, c.v, c.e)
		if Has(v, at(t, s)) != (c.e == api.OK) {
			t.Errorf("Has %s", s)
		}
	}
	if got, e := Get(v, invalid); e != api.ErrArg || !value.Same(got, api.Value{}) || Has(v, invalid) {
		t.Error("Get of an invalid path")
	}
	got, _ := Get(v, at(t, ".a"))
	got.List[0] = n(0)
	if x, _ := Get(v, at(t, ".a[0]")); !value.Same(x, n(7)) {
		t.Error("Get shares memory")
	}
}

// P9.3
func TestSet(t *testing.T) {
	v := sample()
	for s, c := range map[string]struct {
		want api.Value
		e    api.Errno
	}{".": {n(1), 0}, ".a[1]": {fields("a", value.List(n(7), n(1)), "b", fields("c", value.Null())), 0}, ".a": {fields("a", n(1), "b", fields("c", value.Null())), 0}, ".d": {fields("a", value.List(n(7), n(8)), "b", fields("c", value.Null()), "d", n(1)), 0}, ".b.d": {fields("a", value.List(n(7), n(8)), "b", fields("c", value.Null(), "d", n(1))), 0},
		".a[2]": {api.Value{}, api.ErrNotFound}, ".a.x": {api.Value{}, api.ErrKind}, ".x.y": {api.Value{}, api.ErrNotFound}, ".b.c.d": {api.Value{}, api.ErrKind}, ".[0]": {api.Value{}, api.ErrKind}} {
		got, e := Set(v, at(t, s), n(1))
		expect(t, "Set "+s, got, e, c.want, c.e)
	}
	if !value.Same(v, sample()) {
		t.Error("Set changes its argument")
	}
	if _, e := Set(v, invalid, n(1)); e != api.ErrArg {
		t.Error("Set at an invalid path")
	}
	deep := n(1)
	for range 46 {
		deep = value.List(deep)
	}
	if _, e := Set(v, at(t, ".a[0]"), deep); e != api.ErrDepth {
		t.Error("Set of a deep value")
	}
	if _, e := Set(v, at(t, ".a"), value.Text("\xff")); e != api.ErrText {
		t.Error("Set of an invalid value")
	}
	x := value.List(n(1))
	got, _ := Set(v, nil, x)
	got.List[0] = n(2)
	if !value.Same(x, value.List(n(1))) {
		t.Error("Set shares memory")
	}
}

// P9.4
func TestInsert(t *testing.T) {
	v := sample()
	for s, c := range map[string]struct {
		want api.Value
		e    api.Errno
	}{".a[0]": {fields("a", value.List(n(9), n(7), n(8)), "b", fields("c", value.Null())), 0}, ".a[2]": {fields("a", value.List(n(7), n(8), n(9)), "b", fields("c", value.Null())), 0}, ".b.d": {fields("a", value.List(n(7), n(8)), "b", fields("c", value.Null(), "d", n(9))), 0},
		".": {api.Value{}, api.ErrArg}, ".a": {api.Value{}, api.ErrExists}, ".a[3]": {api.Value{}, api.ErrNotFound}, ".a.x": {api.Value{}, api.ErrKind}, ".x.y": {api.Value{}, api.ErrNotFound}} {
		got, e := Insert(v, at(t, s), n(9))
		expect(t, "Insert "+s, got, e, c.want, c.e)
		if e == api.OK {
			back, e := Remove(got, at(t, s))
			expect(t, "Remove "+s, back, e, v, 0)
		}
	}
	if _, e := Insert(v, invalid, n(1)); e != api.ErrArg {
		t.Error("Insert at an invalid path")
	}
	full := api.Value{Kind: api.VList, List: make([]api.Value, api.MaxNodes-1)}
	if _, e := Insert(full, at(t, ".[0]"), n(1)); e != api.ErrSize {
		t.Error("Insert into a full value")
	}
}

// P9.5, P9.6
func TestRemoveRename(t *testing.T) {
	v := sample()
	for s, c := range map[string]struct {
		want api.Value
		e    api.Errno
	}{".a[0]": {fields("a", value.List(n(8)), "b", fields("c", value.Null())), 0}, ".a": {fields("b", fields("c", value.Null())), 0}, ".": {api.Value{}, api.ErrArg}, ".a[2]": {api.Value{}, api.ErrNotFound}, ".x": {api.Value{}, api.ErrNotFound}, ".a.x": {api.Value{}, api.ErrKind}} {
		got, e := Remove(v, at(t, s))
		expect(t, "Remove "+s, got, e, c.want, c.e)
	}
	for _, c := range []struct {
		p, key string
		want   api.Value
		e      api.Errno
	}{{".a", "z", fields("z", value.List(n(7), n(8)), "b", fields("c", value.Null())), 0}, {".a", "a", v, 0}, {".a", "b", api.Value{}, api.ErrExists}, {".x", "b", api.Value{}, api.ErrNotFound}, {".", "b", api.Value{}, api.ErrArg}, {".a[0]", "b", api.Value{}, api.ErrArg}, {".a", "\xff", api.Value{}, api.ErrArg}, {".a.b", "b", api.Value{}, api.ErrKind}, {".b.c", "a", fields("a", value.List(n(7), n(8)), "b", fields("a", value.Null())), 0}} {
		got, e := Rename(v, at(t, c.p), c.key)
		expect(t, "Rename "+c.p, got, e, c.want, c.e)
	}
	if _, e := Remove(v, invalid); e != api.ErrArg {
		t.Error("Remove at an invalid path")
	}
	if !value.Same(v, sample()) {
		t.Error("the argument changed")
	}
}

func texts(l [][]api.Step) string {
	s := ""
	for _, p := range l {
		s += path.Text(p) + " "
	}
	return s
}

// P9.7, P9.8
func TestWalk(t *testing.T) {
	v := fields("a", value.List(n(7), value.List()), "b", fields(), "c", n(1))
	if got := texts(Paths(v)); got != ". .a .a[0] .a[1] .b .c " {
		t.Error(got)
	}
	if got := texts(Leaves(v)); got != ".a[0] .a[1] .b .c " {
		t.Error(got)
	}
	if got := texts(Leaves(n(1))); got != ". " {
		t.Error(got)
	}
	i := 0
	paths := Paths(v)
	for p, x := range Walk(v) {
		want, e := Get(v, p)
		expect(t, "Walk", x, e, want, 0)
		if !path.Equal(p, paths[i]) {
			t.Error("Walk")
		}
		i++
		if len(p) > 0 {
			p[0].Key = "changed"
		}
		if len(x.List) > 0 {
			x.List[0] = n(0)
		}
		if i == 4 {
			break
		}
	}
	if i != 4 || !value.Same(v.Fields[0].Val.List[0], n(7)) {
		t.Error("Walk")
	}
}

// P9.9
func TestConsequences(t *testing.T) {
	r := rand.New(rand.NewSource(7))
	v := fields("a", value.List(n(1), fields("x", n(2), "y", value.List(n(3)))), "b", n(4))
	all := Paths(v)
	if len(all) != value.Size(v) {
		t.Error("paths and nodes")
	}
	for range 200 {
		p := all[r.Intn(len(all))]
		w, e := Set(v, p, n(99))
		got, _ := Get(w, p)
		expect(t, "Set", got, e, n(99), 0)
		for _, q := range all {
			if path.Under(p, q) || path.Under(q, p) {
				continue
			}
			x, _ := Get(v, q)
			y, e := Get(w, q)
			expect(t, "another path", y, e, x, 0)
		}
	}
}
