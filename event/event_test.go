package event

import (
	"slices"
	"strings"
	"testing"

	"datakit/api"
	"datakit/path"
	"datakit/value"
)

type events = []api.Event

var (
	ls = api.Event{Kind: api.EvListStart}
	le = api.Event{Kind: api.EvListEnd}
	ms = api.Event{Kind: api.EvMapStart}
	me = api.Event{Kind: api.EvMapEnd}
	s1 = scalar(value.Int(1))
)

func scalar(v api.Value) api.Event { return api.Event{Kind: api.EvScalar, Val: v} }
func key(k string) api.Event       { return api.Event{Kind: api.EvKey, Key: k} }

func same(a, b events) bool {
	return slices.EqualFunc(a, b, func(x, y api.Event) bool { return x.Kind == y.Kind && x.Key == y.Key && value.Same(x.Val, y.Val) })
}

func sample() api.Value {
	inner, _ := value.Map(api.Field{Key: "x", Val: value.Bytes([]byte{7})}, api.Field{Key: "y", Val: value.List()})
	v, _ := value.Map(api.Field{Key: "a", Val: value.List(value.Int(1), inner)}, api.Field{Key: "b", Val: value.Null()})
	return v
}

var sampleEvents = events{ms, key("a"), ls, s1, ms, key("x"), scalar(value.Bytes([]byte{7})), key("y"), ls, le, me, le, key("b"), scalar(value.Null()), me}

// P14.1, P14.4, P14.8
func TestRoundTrip(t *testing.T) {
	for _, v := range []api.Value{sample(), value.Int(1), value.List(), value.Null()} {
		l := Of(v)
		got, e := Value(l)
		if !value.Same(got, v) || e != api.OK || !same(Of(got), l) || Check(l) != api.OK {
			t.Errorf("%v", l)
		}
		for i := range l {
			if v, e := Value(l[:i]); e != api.ErrTruncated || !value.Same(v, api.Value{}) || Check(l[:i]) != e {
				t.Errorf("a beginning: %v", e)
			}
		}
	}
	if !same(Of(sample()), sampleEvents) {
		t.Errorf("Of: %v", Of(sample()))
	}
	raw := []byte{7}
	l := Of(value.Bytes(raw))
	v, _ := Value(l)
	l[0].Val.Bytes[0] = 8
	if v.Bytes[0] != 7 {
		t.Error("Value shares memory")
	}
}

// P14.2
func TestErrors(t *testing.T) {
	deep := make(events, api.MaxDepth)
	for i := range deep {
		deep[i] = ls
	}
	full := events{ls}
	for range api.MaxNodes - 1 {
		full = append(full, s1)
	}
	for i, c := range []struct {
		l events
		e api.Errno
	}{
		{events{{}}, api.ErrKind}, {events{{Kind: 7}}, api.ErrKind}, {events{{Kind: -1}}, api.ErrKind}, {events{{Kind: api.EvListStart, Key: "x"}}, api.ErrKind}, {events{{Kind: api.EvMapEnd, Val: value.Int(1)}}, api.ErrKind}, {events{ms, {Kind: api.EvKey, Val: value.Bool(true)}}, api.ErrKind}, {events{{Kind: api.EvListStart, Val: api.Value{Text: "x"}}}, api.ErrKind},
		{events{scalar(value.List())}, api.ErrKind}, {events{scalar(api.Value{Kind: 9})}, api.ErrKind}, {events{{Kind: api.EvScalar, Key: "x"}}, api.ErrKind}, {events{scalar(value.Text("\xff"))}, api.ErrText}, {events{s1, scalar(value.Text("\xff"))}, api.ErrText}, {events{scalar(value.Num(api.Decimal{Exp: 1}))}, api.ErrRange},
		{events{key("\xff")}, api.ErrText}, {events{key(strings.Repeat("x", 1025))}, api.ErrSize}, {events{key("a")}, api.ErrState}, {events{le}, api.ErrState}, {events{me}, api.ErrState}, {events{s1, s1}, api.ErrState}, {events{ls, le, ls}, api.ErrState}, {events{ls, key("a")}, api.ErrState}, {events{ls, me}, api.ErrState},
		{events{ms, s1}, api.ErrState}, {events{ms, ls}, api.ErrState}, {events{ms, le}, api.ErrState}, {events{ms, key("a"), key("b")}, api.ErrState}, {events{ms, key("a"), me}, api.ErrState}, {events{ms, key("a"), s1, key("a")}, api.ErrExists}, {events{ms, key("a"), ms, key("a"), s1, key("a")}, api.ErrExists},
		{append(slices.Clone(deep), s1), api.ErrDepth}, {append(slices.Clone(deep), ls), api.ErrDepth}, {deep, api.ErrTruncated}, {append(slices.Clone(full), s1), api.ErrSize}, {append(slices.Clone(full), ls), api.ErrSize}, {append(slices.Clone(full), le), api.OK}} {
		if e := Check(c.l); e != c.e {
			t.Errorf("case %d: %v, want %v", i, e, c.e)
		}
	}
}

// P14.2, P14.3
func TestBuilder(t *testing.T) {
	b := New()
	if v, ok := b.Done(); ok || !value.Same(v, api.Value{}) || b.Depth() != 0 || len(b.Path()) != 0 {
		t.Error("a new builder")
	}
	want := []string{".", ".a", ".a[0]", ".a[1]", ".a[1]", ".a[1].x", ".a[1]", ".a[1].y", ".a[1].y[0]", ".a[1]", ".a[2]", ".", ".b", ".", "."}
	depth := []int{1, 1, 2, 2, 3, 3, 3, 3, 4, 3, 2, 1, 1, 1, 0}
	for i, e := range sampleEvents {
		if b.Add(e) != api.OK || path.Text(b.Path()) != want[i] || b.Depth() != depth[i] {
			t.Errorf("event %d: %s, %d", i, path.Text(b.Path()), b.Depth())
		}
	}
	v, ok := b.Done()
	if !ok || !value.Same(v, sample()) {
		t.Error("Done")
	}
	v.Fields[0].Val.List[0] = value.Null()
	if v, _ := b.Done(); !value.Same(v, sample()) {
		t.Error("Done shares memory")
	}
	if b.Add(s1) != api.ErrState || b.Add(api.Event{}) != api.ErrState {
		t.Error("the end")
	}
	if v, ok := b.Done(); !ok || !value.Same(v, sample()) {
		t.Error("Done after an error")
	}
	b = New()
	b.Add(ls)
	b.Add(key("x"))
	if b.Add(le) != api.ErrState || b.Depth() != 1 || path.Text(b.Path()) != ".[0]" {
		t.Error("an error is final")
	}
	b = nil
	if v, ok := b.Done(); ok || !value.Same(v, api.Value{}) || b.Add(s1) != api.ErrState || b.Depth() != 0 || b.Path() != nil {
		t.Error("a nil builder")
	}
}

// P14.5
func TestDepth(t *testing.T) {
	for i, c := range []struct {
		l    events
		want int
	}{{nil, 0}, {events{s1}, 0}, {sampleEvents, 4}, {events{le, me, ls, le, ls}, 1}, {events{ls, key("x"), ms, {Kind: 99}, ls}, 3}} {
		if got := Depth(c.l); got != c.want {
			t.Errorf("case %d: %d", i, got)
		}
	}
}

// P14.6, P14.7
func TestWhereTake(t *testing.T) {
	where := []string{".", ".a", ".a", ".a[0]", ".a[1]", ".a[1].x", ".a[1].x", ".a[1].y", ".a[1].y", ".a[1].y", ".a[1]", ".a", ".b", ".b", "."}
	for i, want := range where {
		p, e := Where(sampleEvents, i)
		if path.Text(p) != want || e != api.OK {
			t.Errorf("Where %d: %s, %v", i, path.Text(p), e)
		}
	}
	for _, i := range []int{-1, len(sampleEvents)} {
		if p, e := Where(sampleEvents, i); p != nil || e != api.ErrRange {
			t.Errorf("Where %d: %v", i, e)
		}
	}
	if p, e := Where(events{ls, key("a"), {}}, 1); p != nil || e != api.ErrState {
		t.Error("Where of an error")
	}
	if p, e := Where(events{ls, key("a")}, 0); len(p) != 0 || e != api.OK {
		t.Error("Where before an error")
	}
	for s, c := range map[string]struct{ from, to int }{".": {0, 15}, ".a": {2, 12}, ".a[0]": {3, 4}, ".a[1]": {4, 11}, ".a[1].y": {8, 10}, ".b": {13, 14}} {
		p, _ := path.Parse(s)
		l, e := Take(sampleEvents, p)
		if !same(l, sampleEvents[c.from:c.to]) || e != api.OK {
			t.Errorf("Take %s: %v, %v", s, l, e)
		}
	}
	for _, s := range []string{".c", ".a[2]", ".a.x", ".b.c", ".[0]"} {
		p, _ := path.Parse(s)
		if l, e := Take(sampleEvents, p); l != nil || e != api.ErrNotFound {
			t.Errorf("Take %s: %v", s, e)
		}
	}
	if _, e := Take(sampleEvents[:3], nil); e != api.ErrTruncated {
		t.Error("Take of a beginning")
	}
	if _, e := Take(sampleEvents, []api.Step{{Key: "a", Index: 3}}); e != api.ErrNotFound {
		t.Error("Take at an invalid path")
	}
}
