package qstream

import (
	"math/rand"
	"reflect"
	"strings"
	"testing"

	"datakit/api"
	"datakit/brace"
	"datakit/event"
	"datakit/limit"
	"datakit/module"
	"datakit/qanalyze"
	"datakit/qeval"
	"datakit/qparse"
	"datakit/value"
)

func val(t *testing.T, src string) api.Value {
	t.Helper()
	v, _, err := brace.Read(src, limit.Usual())
	if err != api.OK {
		t.Fatal(src, err)
	}
	return v
}

func plan(t *testing.T, src string) (api.Plan, api.Program) {
	t.Helper()
	m, _, err := qparse.Module("main", src)
	if err != api.OK {
		t.Fatal(src, err)
	}
	p, err := module.Link(m, nil)
	if err != api.OK {
		t.Fatal(src, err)
	}
	p, _ = module.Trim(p)
	x, err := qanalyze.Plan(p)
	if err != api.OK {
		t.Fatal(src, err)
	}
	return x, p
}

func show(out []api.Value, err api.Errno) string {
	var parts []string
	for _, v := range out {
		s, _ := brace.Inline(v)
		parts = append(parts, s)
	}
	if err != api.OK {
		parts = append(parts, err.Error())
	}
	return strings.Join(parts, "; ")
}

// P44.2 to P44.4
func TestFeed(t *testing.T) {
	for _, test := range []struct {
		query, in string
		feeds     []string // the outputs and the error of each event
		held      []int
		end       string
	}{
		{".[] | . + 1", "[1, 2]", []string{"", "2", "3", ""}, []int{0, 0, 0, 0}, ""}, {".[].a", "[{b: 1}, {a: [2]}, 7]", []string{"", "", "", "", "null", "", "", "", "", "[2]", "", "kind"}, []int{0, 0, 0, 0, 0, 0, 0, 1, 2, 0, 0, 0}, "state"}, {"reduce .[] as $x (0; . + $x)", "[1, 2]", []string{"", "", "", ""}, nil, "3"}, {".[]", "[[1, {a: 2}]]", []string{"", "", "", "", "", "", "", "[1, {a: 2}]", ""}, []int{0, 1, 2, 3, 3, 4, 4, 0, 0}, ""}, {"foreach .[] as $x (0; ., . + $x) | [.]", "[1, 2]", []string{"", "[0]; [1]", "[1]; [3]", ""}, nil, ""}, {".a.b", "null", []string{"null"}, nil, ""}, {".a[]", "null", []string{"kind"}, nil, "state"}, {".a[]", "{b: 1}", []string{"", "", "", "kind"}, nil, "state"}, {".[1]", "[5]", []string{"", "", "null"}, nil, ""}, {".[1]", "{}", []string{"kind"}, nil, "state"}, {".a", "[]", []string{"kind"}, nil, "state"}, {".a", "1", []string{"kind"}, nil, "state"}, {".[]", "null", []string{"kind"}, nil, "state"}, {".[] | ., error(.), 3", "[1, 2]", []string{"", "1; user"}, nil, "state"}, {"reduce .[] as $x (5; empty) | [., .]", "[1]", []string{"", "", ""}, nil, "[null, null]"}, {"foreach .[] as $x (0; 1, error(2)) | if . == 1 then error(3) else . end", "[1]", []string{"", "user"}, nil, "state"}, {"foreach .[] as $x (0; 1, error(2))", "[1]", []string{"", "1; user"}, nil, "state"}, {".[0][0]", "[[7, 8], [9]]", []string{"", "", "7", "", "", "", "", "", ""}, nil, ""},
	} {
		x, _ := plan(t, test.query)
		m, err := New(x, limit.Usual(), api.MaxFuel)
		if err != api.OK {
			t.Fatal(err)
		}
		for i, e := range event.Of(val(t, test.in)) {
			if i >= len(test.feeds) {
				break
			}
			if got := show(m.Feed(e)); got != test.feeds[i] {
				t.Errorf("%s, event %d: %s", test.query, i, got)
			}
			if test.held != nil && m.Held() != test.held[i] {
				t.Errorf("%s, event %d: held %d", test.query, i, m.Held())
			}
		}
		if got := show(m.End()); got != test.end {
			t.Errorf("%s: %s at the end", test.query, got)
		}
		if _, err := m.Feed(api.Event{Kind: api.EvListStart}); err != api.ErrState {
			t.Error(err)
		}
		if _, err := m.End(); err != api.ErrState || m.Held() != 0 {
			t.Error(err)
		}
	}
	x, _ := plan(t, ".[] | error(.)")
	m, _ := New(x, limit.Usual(), 99)
	m.Feed(api.Event{Kind: api.EvListStart})
	m.Feed(api.Event{Kind: api.EvScalar, Val: value.Int(4)})
	if !value.Same(m.Raised(), value.Int(4)) {
		t.Error(m.Raised())
	}
	var none *Machine
	if _, err := none.Feed(api.Event{}); err != api.ErrState {
		t.Error(err)
	}
	if _, err := none.End(); err != api.ErrState || none.Held() != 0 || !value.Same(none.Raised(), api.Value{}) {
		t.Error(err)
	}
}

// P44.1 to P44.3: errors
func TestErrors(t *testing.T) {
	x, _ := plan(t, ".[]")
	if m, err := New(x, api.Limits{}, 9); m != nil || err != api.ErrArg {
		t.Error(err)
	}
	if m, err := New(api.Plan{}, limit.Usual(), 9); m != nil || err != api.ErrArg {
		t.Error(err)
	}
	if o := Run(api.Plan{}, nil, limit.Usual(), 9); !reflect.DeepEqual(o, api.Outcome{Err: api.ErrArg}) {
		t.Error(o)
	}
	small := limit.Usual()
	small.Depth, small.Nodes = 2, 3
	start, fields, key := api.Event{Kind: api.EvListStart}, api.Event{Kind: api.EvMapStart}, api.Event{Kind: api.EvKey, Key: "a"}
	one := api.Event{Kind: api.EvScalar, Val: value.Int(1)}
	end := api.Event{Kind: api.EvListEnd}
	var deep []api.Event
	for range 49 {
		deep = append(deep, start)
	}
	for i, test := range []struct {
		l   []api.Event
		o   api.Limits
		err api.Errno
	}{
		{nil, small, api.ErrTruncated}, {[]api.Event{start}, small, api.ErrTruncated}, {[]api.Event{start, end, one}, small, api.ErrState}, {[]api.Event{start, start, one}, small, api.ErrDepth}, {[]api.Event{start, one, one, one}, small, api.ErrSize}, {[]api.Event{start, one, one, end}, small, api.OK}, {deep, limit.Usual(), api.ErrDepth}, {[]api.Event{end}, small, api.ErrState}, {[]api.Event{key}, small, api.ErrState}, {[]api.Event{{}}, small, api.ErrKind}, {[]api.Event{{Kind: api.EvScalar, Val: value.List()}}, small, api.ErrKind}, {[]api.Event{{Kind: api.EvScalar, Val: value.Text("\xff")}}, small, api.ErrText}, {[]api.Event{fields, one}, small, api.ErrState}, {[]api.Event{fields, key, one, key}, small, api.ErrExists}, {[]api.Event{fields, key, key}, small, api.ErrState}, {[]api.Event{fields, end}, small, api.ErrState}, {[]api.Event{fields, {Kind: api.EvKey, Key: "\xff"}}, small, api.ErrText}, {[]api.Event{{Kind: api.EvKey, Key: "\xff"}}, small, api.ErrText}, {[]api.Event{fields, key, {Kind: api.EvMapEnd}}, small, api.ErrState}, {[]api.Event{start, fields, key, {Kind: api.EvScalar, Val: value.Text("\xff")}}, small, api.ErrText}, {[]api.Event{start, fields, {Kind: api.EvMapEnd}, end}, small, api.OK},
	} {
		if o := Run(x, test.l, test.o, api.MaxFuel); o.Err != test.err {
			t.Error(i, o.Err)
		}
	}
	x, _ = plan(t, "reduce .[] as $x (-\"a\"; .)")
	m, _ := New(x, limit.Usual(), 99)
	if _, err := m.Feed(api.Event{}); err != api.ErrKind {
		t.Error(err)
	}
	m, _ = New(x, limit.Usual(), 99)
	if _, err := m.End(); err != api.ErrKind {
		t.Error(err)
	}
	x, _ = plan(t, ".[] | 1, 2")
	events := event.Of(val(t, "[1, 2]"))
	for fuel, want := range map[int]string{-1: "fuel", 0: "fuel", 2: "1; fuel", 3: "1; 2; fuel", 6: "1; 2; 1; 2", 1 << 50: "1; 2; 1; 2"} {
		o := Run(x, events, limit.Usual(), fuel)
		if got := show(o.Out, o.Err); got != want || o.Steps != min(max(fuel, 0), 6) {
			t.Error(fuel, got, o.Steps)
		}
	}
	x, _ = plan(t, ".[] | range(0; 4096)")
	if o := Run(x, events, limit.Usual(), api.MaxFuel); o.Err != api.ErrFuel || len(o.Out) != api.MaxOutputs {
		t.Error(o.Err, len(o.Out))
	}
	if o := Run(x, event.Of(val(t, "[1]")), limit.Usual(), api.MaxFuel); o.Err != api.OK || len(o.Out) != api.MaxOutputs {
		t.Error(o.Err, len(o.Out))
	}
}

func random(r *rand.Rand, depth int) api.Value {
	k := r.Intn(8)
	if depth == 0 {
		k = r.Intn(4)
	}
	switch k {
	case 0:
		return value.Null()
	case 1, 2:
		return value.Int(r.Intn(5))
	case 3:
		return value.Text("a")
	case 4, 5:
		v := api.Value{Kind: api.VList}
		for range r.Intn(4) {
			v.List = append(v.List, random(r, depth-1))
		}
		return v
	}
	v := api.Value{Kind: api.VMap}
	for _, i := range r.Perm(3)[:r.Intn(4)] {
		v.Fields = append(v.Fields, api.Field{Key: []string{"a", "b", "c"}[i], Val: random(r, depth-1)})
	}
	return v
}

// P44.5, P44.6, W4
func TestSame(t *testing.T) {
	r := rand.New(rand.NewSource(1))
	good := 0
	for range 4000 {
		sel := ""
		for range 1 + r.Intn(3) {
			sel += []string{".a", ".b", "[]", "[]", "[0]", "[1]"}[r.Intn(6)]
		}
		if sel[0] == '[' {
			sel = "." + sel
		}
		update := []string{". + $x", "$x", "., $x", "empty", "[., $x]", "if $x then . else error(.) end", "1 / $x", "(1, error(2))"}[r.Intn(8)]
		body := []string{"", " | .", " | [.]", " | ., 1", " | .a?", " | error(.)", " | ., error(1)", " | map(.)", " | .[0]"}[r.Intn(9)]
		src := []string{sel, "reduce " + sel + " as $x (0; " + update + ")", "foreach " + sel + " as $x ([]; " + update + ")"}[r.Intn(3)] + body
		x, p := plan(t, src)
		for range 4 {
			v := random(r, 3)
			want := qeval.Eval(p, v, api.MaxFuel)
			got := Run(x, event.Of(v), limit.Usual(), api.MaxFuel)
			if want.Err == api.OK {
				good++
			}
			if show(got.Out, got.Err) != show(want.Out, want.Err) || !value.Same(got.Val, want.Val) {
				in, _ := brace.Inline(v)
				t.Fatalf("%s on %s: %s, not %s", src, in, show(got.Out, got.Err), show(want.Out, want.Err))
			}
		}
	}
	if good < 1000 {
		t.Error(good)
	}
}
