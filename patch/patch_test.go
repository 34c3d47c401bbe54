package patch

import (
	"math/rand"
	"reflect"
	"testing"

	"datakit/api"
	"datakit/brace"
	"datakit/limit"
	"datakit/path"
	"datakit/value"
)

func val(t *testing.T, src string) api.Value {
	t.Helper()
	v, _, err := brace.Read(src, limit.Usual())
	if err != api.OK {
		t.Fatal(src, err)
	}
	return v
}

func steps(t *testing.T, text string) []api.Step {
	t.Helper()
	p, err := path.Parse(text)
	if err != api.OK {
		t.Fatal(text)
	}
	return p
}

func change(t *testing.T, op int, p string, at int, old, new string) api.Change {
	t.Helper()
	c := api.Change{Op: op, Path: steps(t, p), At: at}
	if old != "" {
		c.Old = val(t, old)
	}
	if new != "" {
		c.New = val(t, new)
	}
	return c
}

// P56.1
func TestCheck(t *testing.T) {
	one := value.Int(1)
	bad := api.Value{Kind: 9}
	for i, test := range []struct {
		c   api.Change
		err api.Errno
	}{
		{api.Change{Op: api.ChReplace}, 0}, {api.Change{Op: api.ChTest}, 0}, {api.Change{Op: 0}, api.ErrArg}, {api.Change{Op: 5}, api.ErrArg}, {api.Change{Op: api.ChInsert}, api.ErrArg}, {api.Change{Op: api.ChRemove}, api.ErrArg}, {api.Change{Op: api.ChReplace, Path: []api.Step{path.At(-1)}}, api.ErrArg}, {change(t, api.ChInsert, ".a", 3, "", "1"), 0}, {change(t, api.ChInsert, ".a", -1, "", "1"), api.ErrArg}, {change(t, api.ChInsert, ".a", api.MaxNodes+1, "", "1"), api.ErrArg}, {change(t, api.ChInsert, ".[0]", 1, "", "1"), api.ErrArg}, {change(t, api.ChRemove, ".a", 1, "1", ""), 0}, {change(t, api.ChReplace, ".a", 1, "1", "1"), api.ErrArg}, {change(t, api.ChTest, ".a", 1, "1", ""), api.ErrArg}, {change(t, api.ChInsert, ".a", 0, "1", "1"), api.ErrArg}, {change(t, api.ChRemove, ".a", 0, "1", "1"), api.ErrArg}, {change(t, api.ChTest, ".a", 0, "1", "1"), api.ErrArg}, {api.Change{Op: api.ChReplace, Old: bad, New: value.Text("\xff")}, api.ErrKind}, {api.Change{Op: api.ChReplace, Old: one, New: value.Text("\xff")}, api.ErrText}, {api.Change{Op: api.ChInsert, Path: steps(t, ".a"), Old: bad, New: bad}, api.ErrArg}, {api.Change{Op: api.ChTest, Old: bad}, api.ErrKind},
	} {
		if err := Check([]api.Change{{Op: api.ChTest}, test.c}); err != test.err {
			t.Error(i, err)
		}
		if v, err := Write([]api.Change{test.c}); err != test.err || err != api.OK && !reflect.DeepEqual(v, api.Value{}) {
			t.Error(i, err)
		}
		if _, at, err := Apply(value.Null(), []api.Change{{Op: api.ChReplace, Old: one, New: one}, test.c}); test.err != api.OK && (err != test.err || at != 1) {
			t.Error(i, at, err)
		}
	}
	if err := Check(make([]api.Change, api.MaxChanges+1)); err != api.ErrSize {
		t.Error(err)
	}
	if _, at, err := Apply(api.Value{}, make([]api.Change, api.MaxChanges+1)); at != 0 || err != api.ErrSize {
		t.Error(err)
	}
}

// P56.2, P56.3
func TestApply(t *testing.T) {
	for _, test := range []struct {
		v    string
		c    api.Change
		want string
	}{
		{"{a: 1, b: 2}", change(t, api.ChRemove, ".a", 0, "1", ""), "{b: 2}"}, {"{a: 1, b: 2}", change(t, api.ChRemove, ".a", 1, "1", ""), "match"}, {"{a: 1, b: 2}", change(t, api.ChRemove, ".a", 0, "2", ""), "match"}, {"{a: 1}", change(t, api.ChRemove, ".x", 0, "1", ""), "match"}, {"[1, 2]", change(t, api.ChRemove, ".[1]", 0, "2", ""), "[1]"}, {"{a: 1}", change(t, api.ChTest, ".a", 0, "1.0", ""), "{a: 1}"}, {"{a: 1}", change(t, api.ChTest, ".a", 0, "2", ""), "match"}, {"{a: 1}", change(t, api.ChTest, ".a.b", 0, "2", ""), "match"}, {"{a: 1}", change(t, api.ChReplace, ".a", 0, "1", "[2]"), "{a: [2]}"}, {"1", change(t, api.ChReplace, ".", 0, "1", "2"), "2"}, {"{a: 1, b: 2}", change(t, api.ChInsert, ".c", 1, "", "3"), "{a: 1, c: 3, b: 2}"}, {"{a: 1}", change(t, api.ChInsert, ".c", 2, "", "3"), "match"}, {"{a: 1}", change(t, api.ChInsert, ".a", 0, "", "3"), "match"}, {"[1]", change(t, api.ChInsert, ".a", 0, "", "3"), "match"}, {"[1]", change(t, api.ChInsert, ".[0]", 0, "", "3"), "[3, 1]"}, {"[1]", change(t, api.ChInsert, ".[1]", 0, "", "3"), "[1, 3]"}, {"[1]", change(t, api.ChInsert, ".[2]", 0, "", "3"), "match"}, {"{a: 1}", change(t, api.ChInsert, ".x.y", 0, "", "3"), "match"}, {"{a: 1}", change(t, api.ChInsert, ".[0]", 0, "", "3"), "match"},
	} {
		v := val(t, test.v)
		got, at, err := Apply(v, []api.Change{{Op: api.ChTest, Old: v}, test.c})
		text, _ := brace.Inline(got)
		if err != api.OK {
			text = err.Error()
			if at != 1 || !reflect.DeepEqual(got, api.Value{}) {
				t.Error(at, got)
			}
		} else if at != 0 {
			t.Error(at)
		}
		if text != test.want {
			t.Errorf("%s: %s, not %s", test.v, text, test.want)
		}
		if err == api.OK {
			back, _, err := Apply(got, Invert([]api.Change{test.c}))
			if err != api.OK || !value.Same(back, v) {
				t.Error(test.v, err)
			}
		}
	}
	deep := value.Int(1)
	for range 47 {
		deep = value.List(deep)
	}
	if _, at, err := Apply(val(t, "[1]"), []api.Change{{Op: api.ChReplace, Path: steps(t, ".[0]"), Old: value.Int(1), New: deep}}); at != 0 || err != api.ErrDepth {
		t.Error(err)
	}
	big := api.Value{Kind: api.VList, List: make([]api.Value, 40000)}
	ins := api.Change{Op: api.ChInsert, Path: steps(t, ".[0]"), New: big}
	if _, at, err := Apply(value.List(), []api.Change{ins, ins}); at != 1 || err != api.ErrSize {
		t.Error(at, err)
	}
	l := []api.Change{change(t, api.ChInsert, ".a", 2, "", "1"), change(t, api.ChTest, ".b", 0, "2", ""), change(t, api.ChReplace, ".c", 0, "3", "4"), change(t, api.ChRemove, ".d", 1, "5", ""), {Op: 9, Old: value.Int(1)}}
	want := []api.Change{{Op: 9, Old: value.Int(1)}, change(t, api.ChInsert, ".d", 1, "", "5"), change(t, api.ChReplace, ".c", 0, "4", "3"), change(t, api.ChTest, ".b", 0, "2", ""), change(t, api.ChRemove, ".a", 2, "1", "")}
	if got := Invert(l); !reflect.DeepEqual(got, want) {
		t.Error(got)
	}
}

// P56.4, P56.5
func TestWriteRead(t *testing.T) {
	l := []api.Change{change(t, api.ChRemove, ".a", 0, "1", ""), change(t, api.ChInsert, ".l[2]", 0, "", "[1]"), change(t, api.ChReplace, ".", 0, "1", "null"), change(t, api.ChTest, ".x", 0, "null", ""), change(t, api.ChInsert, ".\"a b\"", 7, "", "{}")}
	v, err := Write(l)
	want := val(t, `[{op: "remove", path: ".a", at: 0, old: 1}, {op: "insert", path: ".l[2]", new: [1]}, {op: "replace", path: ".", old: 1, new: null}, {op: "test", path: ".x", old: null}, {op: "insert", path: ".\"a b\"", at: 7, new: {}}]`)
	if err != api.OK || !value.Same(v, want) {
		t.Error(v, err)
	}
	if back, err := Read(v); err != api.OK || !reflect.DeepEqual(back, l) {
		t.Error(back, err)
	}
	if back, err := Read(val(t, `[{at: 1, old: 2, path: ".a", op: "remove"}]`)); err != api.OK || back[0].At != 1 {
		t.Error(err)
	}
	for src, want := range map[string]api.Errno{"1": api.ErrKind, "{}": api.ErrKind, "[1]": api.ErrKind, "[{}]": api.ErrSyntax, `[{op: "move", path: "."}]`: api.ErrSyntax, `[{op: 1, path: "."}]`: api.ErrSyntax, `[{op: "test", path: 1}]`: api.ErrSyntax, `[{op: "test", path: "a", old: 1}]`: api.ErrSyntax, `[{op: "test", path: "."}]`: api.ErrSyntax, `[{op: "test", path: ".", old: 1, new: 2}]`: api.ErrSyntax, `[{op: "insert", path: ".a", new: 2}]`: api.ErrSyntax, `[{op: "insert", path: ".a", at: 0.5, new: 2}]`: api.ErrSyntax, `[{op: "insert", path: ".a", at: -1, new: 2}]`: api.ErrSyntax, `[{op: "insert", path: ".a", at: 65537, new: 2}]`: api.ErrSyntax, `[{op: "insert", path: ".a", at: "1", new: 2}]`: api.ErrSyntax, `[{op: "insert", path: ".[0]", at: 0, new: 2}]`: api.ErrSyntax, `[{op: "insert", path: ".", new: 2}]`: api.ErrArg, `[{op: "remove", path: ".", old: 2}]`: api.ErrArg, `[{op: "remove", path: ".", at: 1, old: 2}]`: api.ErrSyntax} {
		if l, err := Read(val(t, src)); l != nil || err != want {
			t.Error(src, err)
		}
	}
	if _, err := Read(api.Value{Kind: api.VList, List: make([]api.Value, api.MaxChanges+1)}); err != api.ErrSize {
		t.Error(err)
	}
	deep := value.Int(1)
	for range 46 {
		deep = value.List(deep)
	}
	if _, err := Write([]api.Change{{Op: api.ChTest, Old: deep}}); err != api.ErrDepth {
		t.Error(err)
	}
}

// P56.6
func TestCommute(t *testing.T) {
	a, b := change(t, api.ChReplace, ".a", 0, "1", "2"), change(t, api.ChReplace, ".b", 0, "1", "2")
	if x, y, ok := Commute(a, b); !ok || !reflect.DeepEqual(x, b) || !reflect.DeepEqual(y, a) {
		t.Error(x, y, ok)
	}
	for _, pair := range [][2]api.Change{{change(t, api.ChInsert, ".l[0]", 0, "", "1"), change(t, api.ChReplace, ".l[3]", 0, "1", "2")}, {a, a}, {a, change(t, api.ChTest, ".a.x", 0, "1", "")}, {change(t, api.ChRemove, ".x", 0, "1", ""), a}, {a, {}}, {{}, a}} {
		if x, y, ok := Commute(pair[0], pair[1]); ok || !reflect.DeepEqual(x, api.Change{}) || !reflect.DeepEqual(y, api.Change{}) {
			t.Error(pair)
		}
	}
	if _, _, ok := Commute(change(t, api.ChRemove, ".m.x", 0, "1", ""), change(t, api.ChInsert, ".l[0]", 0, "", "1")); !ok {
		t.Error("no")
	}
}

func randomChange(r *rand.Rand, v api.Value) api.Change {
	keys := []string{"a", "b", "c"}
	c := api.Change{Op: 1 + r.Intn(4), Path: []api.Step{path.Key(keys[r.Intn(3)])}}
	if r.Intn(2) == 0 {
		c.Path = append(c.Path, path.At(r.Intn(3)))
	}
	a := applier{v: v}
	if x := a.at(c.Path); x != nil && c.Op != api.ChInsert {
		c.Old = value.Copy(*x)
	}
	if hasNew(c.Op) {
		c.New = value.Int(r.Intn(9))
	}
	if atField(c.Op, c.Path) {
		c.At = r.Intn(3)
	}
	return c
}

// P56.7, R5
func TestBack(t *testing.T) {
	r := rand.New(rand.NewSource(1))
	applied, commuted := 0, 0
	for range 20000 {
		v := api.Value{Kind: api.VMap}
		for _, k := range []string{"a", "b", "c"}[:r.Intn(4)] {
			v.Fields = append(v.Fields, api.Field{Key: k, Val: []api.Value{value.Int(1), value.List(value.Int(1), value.Int(2))}[r.Intn(2)]})
		}
		before := value.Copy(v)
		a, b := randomChange(r, v), randomChange(r, v)
		l := []api.Change{a, b}
		w, _, err := Apply(v, l)
		if !value.Same(v, before) {
			t.Fatal("changed")
		}
		if err == api.OK {
			applied++
			if back, _, err := Apply(w, Invert(l)); err != api.OK || !value.Equal(back, v) {
				t.Fatal(v, l, err)
			}
		}
		x, y, ok := Commute(a, b)
		if !ok || err != api.OK {
			continue
		}
		if u, _, err := Apply(v, []api.Change{x, y}); err == api.OK {
			commuted++
			if !value.Same(u, w) {
				t.Fatal(v, l)
			}
		}
	}
	if applied < 500 || commuted < 100 {
		t.Error(applied, commuted)
	}
}
