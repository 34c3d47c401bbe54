package section

import (
	"math/rand"
	"reflect"
	"slices"
	"strings"
	"testing"

	"datakit/access"
	"datakit/api"
	"datakit/path"
	"datakit/value"
)

func set(keys string, n int) api.Assign {
	return api.Assign{Keys: strings.Split(keys, "."), Val: value.Int(n)}
}
func head(keys string) api.Assign {
	return api.Assign{Table: true, Keys: strings.Split(keys, ".")}
}
func elem(keys string) api.Assign {
	return api.Assign{Table: true, Element: true, Keys: strings.Split(keys, ".")}
}
func m(fields ...any) api.Value {
	v := api.Value{Kind: api.VMap}
	for i := 0; i < len(fields); i += 2 {
		x, ok := fields[i+1].(api.Value)
		if !ok {
			x = value.Int(fields[i+1].(int))
		}
		v.Fields = append(v.Fields, api.Field{Key: fields[i].(string), Val: x})
	}
	return v
}

// P25.1, P25.2
func TestBuild(t *testing.T) {
	for _, test := range []struct {
		l    []api.Assign
		want api.Value
	}{
		{nil, m()},
		{[]api.Assign{set("a.b", 1), set("a.c", 2), head("x.y"), set("z", 3)}, m("a", m("b", 1, "c", 2), "x", m("y", m("z", 3)))},
		{[]api.Assign{elem("l"), set("k", 1), elem("l"), set("k", 1)}, m("l", value.List(m("k", 1), m("k", 1)))},
		{[]api.Assign{elem("l"), set("k", 1), head("l.t"), elem("l"), set("k", 1), head("l.t")}, m("l", value.List(m("k", 1, "t", m()), m("k", 1, "t", m())))},
		{[]api.Assign{head("a.b"), head("a"), set("c.d", 1), head("a.c.e")}, m("a", m("b", m(), "c", m("d", 1, "e", m())))},
		{[]api.Assign{elem("l"), elem("l.m"), elem("l.m"), set("x", 1), elem("l"), elem("l.m"), head("l.m.y"), head("l.n")}, m("l", value.List(m("m", value.List(m(), m("x", 1))), m("m", value.List(m("y", m())), "n", m())))},
	} {
		got, at, err := Build(test.l)
		if err != api.OK || at != 0 || !value.Same(got, test.want) {
			t.Errorf("%v: %v, %d, %v", test.l, got, at, err)
		}
	}
	deep := strings.Repeat("a.", 46) + "a"
	for _, test := range []struct {
		l   []api.Assign
		at  int
		err api.Errno
	}{
		{[]api.Assign{set("a", 1), set("a.b", 2)}, 1, api.ErrExists}, {[]api.Assign{set("a", 1), head("a.b")}, 1, api.ErrExists}, {[]api.Assign{set("a", 1), elem("a")}, 1, api.ErrKind}, {[]api.Assign{head("a.b"), head("a"), head("a")}, 2, api.ErrExists},
		{[]api.Assign{elem("l"), head("l")}, 1, api.ErrExists}, {[]api.Assign{head("l"), elem("l")}, 1, api.ErrKind}, {[]api.Assign{set("a.b", 1), set("a", 1)}, 1, api.ErrExists}, {[]api.Assign{head("x"), elem("x.l"), head("x"), set("l.a", 1)}, 2, api.ErrExists}, {[]api.Assign{elem("x.l"), head("x"), set("l.a", 1)}, 2, api.ErrExists}, {[]api.Assign{elem("x.l"), head("x"), set("l", 1)}, 2, api.ErrExists},
		{[]api.Assign{{Keys: []string{"a"}, Val: m("b", 1)}, set("a.c", 1)}, 1, api.ErrExists}, {[]api.Assign{{Keys: []string{"a"}, Val: m("b", 1)}, head("a")}, 1, api.ErrExists}, {[]api.Assign{{Keys: []string{"a"}, Val: value.List(m())}, elem("a")}, 1, api.ErrKind}, {[]api.Assign{{Keys: []string{"a"}, Val: value.List(m())}, head("a.b")}, 1, api.ErrExists},
		{[]api.Assign{{}}, 0, api.ErrArg}, {[]api.Assign{{Keys: []string{"a"}, Element: true}}, 0, api.ErrArg}, {[]api.Assign{{Keys: []string{"a"}, Table: true, Val: value.Int(1)}}, 0, api.ErrArg}, {[]api.Assign{{Keys: []string{"a"}, Table: true, Val: api.Value{Kind: api.VList}}}, 0, api.ErrArg}, {[]api.Assign{set("a", 1), {Table: true}}, 1, api.ErrArg},
		{[]api.Assign{set("a", 1), set("\xff", 1)}, 1, api.ErrText}, {[]api.Assign{set(strings.Repeat("k", 1025), 1)}, 0, api.ErrSize}, {[]api.Assign{{Keys: []string{"a"}, Val: api.Value{Kind: 9}}}, 0, api.ErrKind}, {[]api.Assign{{Keys: []string{"a"}, Val: value.Text("\xff")}}, 0, api.ErrText}, {[]api.Assign{{Keys: []string{strings.Repeat("k", 1025)}, Val: value.Text("\xff")}}, 0, api.ErrSize},
		{[]api.Assign{set(deep, 1)}, 0, api.OK}, {[]api.Assign{set(deep+".a", 1)}, 0, api.ErrDepth}, {[]api.Assign{head(deep)}, 0, api.OK}, {[]api.Assign{head(deep), head(deep + ".a")}, 1, api.ErrDepth}, {[]api.Assign{elem(deep)}, 0, api.ErrDepth}, {[]api.Assign{set(strings.Repeat("a.", 100000)+"a", 1)}, 0, api.ErrDepth},
		{[]api.Assign{{Keys: []string{"a"}, Val: api.Value{Kind: api.VList, List: make([]api.Value, api.MaxNodes-2)}}}, 0, api.OK}, {[]api.Assign{{Keys: []string{"a"}, Val: api.Value{Kind: api.VList, List: make([]api.Value, api.MaxNodes-2)}}, head("b")}, 1, api.ErrSize},
	} {
		if at, err := Check(test.l); at != test.at || err != test.err {
			t.Errorf("Check(%.60v) = %d, %v", test.l, at, err)
		}
		v, at, err := Build(test.l)
		if at != test.at || err != test.err || err != api.OK && !reflect.DeepEqual(v, api.Value{}) {
			t.Errorf("Build: %d, %v", at, err)
		}
	}
}

// P25.3, P25.4
func TestFlatten(t *testing.T) {
	v := m("t", m("u", 1), "a", value.List(value.Int(2)), "l", value.List(m()))
	want := []api.Assign{{Keys: []string{"a"}, Val: value.List(value.Int(2))}, head("t"), set("u", 1), elem("l")}
	if got, err := Flatten(v); err != api.OK || !reflect.DeepEqual(got, want) {
		t.Error(got, err)
	}
	v = m("l", value.List(m("x", m("y", m()), "z", 1), m()), "e", value.List(), "k", value.List(m(), value.Int(1)))
	want = []api.Assign{{Keys: []string{"e"}, Val: value.List()}, {Keys: []string{"k"}, Val: value.List(m(), value.Int(1))}, elem("l"), set("z", 1), head("l.x"), head("l.x.y"), elem("l")}
	got, err := Flatten(v)
	if err != api.OK || len(got) != len(want) {
		t.Fatal(got, err)
	}
	for i, a := range got {
		if !slices.Equal(a.Keys, want[i].Keys) || a.Table != want[i].Table || a.Element != want[i].Element || !value.Same(a.Val, want[i].Val) {
			t.Error(a)
		}
	}
	for v, want := range map[*api.Value]api.Errno{{Kind: api.VList}: api.ErrKind, {Kind: 9}: api.ErrKind, {Kind: api.VText, Text: "\xff"}: api.ErrText} {
		if got, err := Flatten(*v); err != want || got != nil {
			t.Error(err)
		}
	}
	for _, test := range []struct {
		v   api.Value
		err api.Errno
	}{{m("a", 1), api.OK}, {value.Int(1), api.ErrLoss}, {m("a", value.Null()), api.ErrLoss}, {m("a", value.List(m("b", value.Bytes(nil)))), api.ErrLoss}, {api.Value{Kind: 9}, api.ErrKind}, {m("a", value.Text("\xff")), api.ErrText}, {value.List(), api.ErrLoss}} {
		if err := Able(test.v); err != test.err {
			t.Error(test.v, err)
		}
	}
}

// P25.5
func TestWhere(t *testing.T) {
	l := []api.Assign{{Keys: []string{"a"}, Val: value.List(m("x", 2))}, head("t"), set("u", 1), elem("l"), set("k", 1), elem("l"), set("k.j", 2)}
	for _, test := range []struct {
		p    string
		at   int
		rest []api.Step
		err  api.Errno
	}{
		{".a", 0, nil, 0}, {".a[0]", 0, []api.Step{path.At(0)}, 0}, {".a[0].x", 0, []api.Step{path.At(0), path.Key("x")}, 0}, {".t.u", 2, nil, 0}, {".l[0].k", 4, nil, 0}, {".l[1].k.j", 6, nil, 0},
		{".t", 0, nil, api.ErrSplit}, {".", 0, nil, api.ErrSplit}, {".l", 0, nil, api.ErrSplit}, {".l[1]", 0, nil, api.ErrSplit}, {".l[1].k", 0, nil, api.ErrSplit}, {".l[2]", 0, nil, api.ErrNotFound}, {".l.x", 0, nil, api.ErrKind}, {".[0]", 0, nil, api.ErrKind}, {".x", 0, nil, api.ErrNotFound}, {".a[1]", 0, nil, api.ErrNotFound}, {".a.b", 0, nil, api.ErrKind}, {".a[0].y", 0, nil, api.ErrNotFound}, {".a[0].x.y", 0, nil, api.ErrKind},
	} {
		p, perr := path.Parse(test.p)
		at, rest, err := Where(l, p)
		if perr != api.OK || at != test.at || err != test.err || !slices.Equal(rest, test.rest) {
			t.Errorf("%s: %d, %v, %v", test.p, at, rest, err)
		}
	}
	if _, _, err := Where(l, []api.Step{path.At(-1)}); err != api.ErrArg {
		t.Error(err)
	}
	if _, _, err := Where([]api.Assign{{}}, []api.Step{path.At(-1)}); err != api.ErrArg {
		t.Error(err)
	}
	if _, _, err := Where([]api.Assign{set("a", 1), set("a", 1)}, nil); err != api.ErrExists {
		t.Error(err)
	}
}

func random(r *rand.Rand, depth int) api.Value {
	if depth == 0 || r.Intn(3) == 0 {
		return value.Int(r.Intn(9))
	}
	if r.Intn(3) == 0 {
		v := api.Value{Kind: api.VList}
		for range r.Intn(3) {
			v.List = append(v.List, random(r, depth-1))
		}
		return v
	}
	return randomMap(r, depth)
}

func randomMap(r *rand.Rand, depth int) api.Value {
	v := api.Value{Kind: api.VMap}
	for _, k := range []string{"a", "b", "", "1:a"}[:r.Intn(5)] {
		v.Fields = append(v.Fields, api.Field{Key: k, Val: random(r, depth-1)})
	}
	return v
}

// P25.6
func TestConsequences(t *testing.T) {
	r := rand.New(rand.NewSource(1))
	for range 1000 {
		v := randomMap(r, 5)
		l, err := Flatten(v)
		if err != api.OK {
			t.Fatal(err)
		}
		back, _, err := Build(l)
		if err != api.OK || !value.Equal(back, v) {
			t.Fatal(v, back, err)
		}
		for n := range l {
			if _, err := Check(l[:n]); err != api.OK {
				t.Fatal(err)
			}
			if !l[n].Table {
				twice := append(slices.Clone(l[:n+1]), l[n])
				if at, err := Check(twice); err != api.ErrExists || at != n+1 {
					t.Fatal(at, err)
				}
			}
		}
		for _, p := range access.Paths(back) {
			at, rest, err := Where(l, p)
			if err == api.ErrSplit {
				continue
			}
			x, _ := access.Get(back, p)
			y, err2 := access.Get(l[at].Val, rest)
			if err != api.OK || err2 != api.OK || !value.Same(x, y) {
				t.Fatal(p, err)
			}
		}
	}
	// Assignments in any order, against the rules applied to every beginning.
	names := []string{"a", "b", "a.b", "a.c", "b.a", "a.b.c", "c"}
	for range 3000 {
		var l []api.Assign
		for range 1 + r.Intn(8) {
			k := names[r.Intn(len(names))]
			l = append(l, []api.Assign{set(k, 1), head(k), elem(k)}[r.Intn(3)])
		}
		v, at, err := Build(l)
		if err == api.OK && value.Check(v) != api.OK {
			t.Fatal(v)
		}
		if err != api.OK {
			if _, e := Check(l[:at]); e != api.OK {
				t.Fatal(e)
			}
		}
	}
}
