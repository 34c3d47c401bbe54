package limit

import (
	"math"
	"testing"

	"datakit/api"
)

var small = api.Limits{Depth: 2, Nodes: 3, Bytes: 4, Aliases: 1, Expand: 5}

func expect(t *testing.T, what string, got api.Usage, e api.Errno, want api.Usage, we api.Errno) {
	t.Helper()
	if got != want || e != we {
		t.Errorf("%s: %v, %v", what, got, e)
	}
}

// P11.1
func TestValid(t *testing.T) {
	if Usual() != (api.Limits{Depth: 48, Nodes: 65536, Bytes: 1048576, Aliases: 1024, Expand: 65536}) || !Valid(Usual()) || !Valid(api.Limits{Depth: 1, Nodes: 1, Bytes: 1}) {
		t.Error("Usual")
	}
	for i := range 5 {
		low, high := api.Limits{Depth: 1, Nodes: 1, Bytes: 1}, Usual()
		*[]*int{&low.Depth, &low.Nodes, &low.Bytes, &low.Aliases, &low.Expand}[i]--
		*[]*int{&high.Depth, &high.Nodes, &high.Bytes, &high.Aliases, &high.Expand}[i]++
		if Valid(low) || Valid(high) {
			t.Errorf("Valid, field %d", i)
		}
		in, below, above := api.Usage(small), api.Usage{}, api.Usage(small)
		*[]*int{&below.Depth, &below.Nodes, &below.Bytes, &below.Aliases, &below.Expand}[i] = -1
		*[]*int{&above.Depth, &above.Nodes, &above.Bytes, &above.Aliases, &above.Expand}[i]++
		if !Within(small, in) || !Within(small, api.Usage{}) || Within(small, below) || Within(small, above) {
			t.Errorf("Within, field %d", i)
		}
	}
	if Within(api.Limits{Depth: -1}, api.Usage{}) || !Within(api.Limits{Depth: math.MaxInt}, api.Usage{Depth: math.MaxInt}) || Within(api.Limits{Depth: -1}, api.Usage{Depth: -1}) {
		t.Error("Within other limits")
	}
}

// P11.2, P11.3
func TestOpenClose(t *testing.T) {
	u, e := Open(small, api.Usage{Nodes: 1})
	expect(t, "Open", u, e, api.Usage{Depth: 1, Nodes: 1}, 0)
	u, _ = Open(small, u)
	again, e := Open(small, u)
	expect(t, "Open", again, e, api.Usage{}, api.ErrDepth)
	u, e = Close(u)
	expect(t, "Close", u, e, api.Usage{Depth: 1, Nodes: 1}, 0)
	u, e = Open(small, u)
	expect(t, "Open", u, e, api.Usage{Depth: 2, Nodes: 1}, 0)
	u, e = Close(api.Usage{Nodes: -4})
	expect(t, "Close", u, e, api.Usage{}, api.ErrState)
	u, e = Close(api.Usage{Depth: math.MinInt})
	expect(t, "Close", u, e, api.Usage{}, api.ErrState)
	u, e = Close(api.Usage{Depth: 1, Nodes: -4})
	expect(t, "Close", u, e, api.Usage{Nodes: -4}, 0)
	u, e = Open(api.Limits{}, api.Usage{})
	expect(t, "Open", u, e, api.Usage{}, api.ErrArg)
	u, e = Open(small, api.Usage{Depth: 2, Expand: 6})
	expect(t, "Open", u, e, api.Usage{}, api.ErrArg)
}

// P11.4, P11.5
func TestAdd(t *testing.T) {
	for i, c := range []struct {
		f    func(l api.Limits, u api.Usage, n int) (api.Usage, api.Errno)
		u    api.Usage
		n    int
		want api.Usage
		e    api.Errno
	}{
		{Node, api.Usage{Nodes: 1}, 2, api.Usage{Nodes: 3}, 0}, {Node, api.Usage{Nodes: 1}, 3, api.Usage{}, api.ErrSize}, {Node, api.Usage{Nodes: 1}, math.MaxInt, api.Usage{}, api.ErrSize}, {Node, api.Usage{}, -1, api.Usage{}, api.ErrArg}, {Node, api.Usage{Nodes: 4}, 0, api.Usage{}, api.ErrArg}, {Node, api.Usage{Nodes: 3}, 0, api.Usage{Nodes: 3}, 0},
		{Bytes, api.Usage{Bytes: 1}, 3, api.Usage{Bytes: 4}, 0}, {Bytes, api.Usage{Bytes: 1}, 4, api.Usage{}, api.ErrSize}, {Bytes, api.Usage{}, math.MinInt, api.Usage{}, api.ErrArg}, {Bytes, api.Usage{Bytes: 4}, math.MaxInt, api.Usage{}, api.ErrSize},
		{Alias, api.Usage{}, 5, api.Usage{Aliases: 1, Expand: 5}, 0}, {Alias, api.Usage{}, 6, api.Usage{}, api.ErrExpand}, {Alias, api.Usage{Aliases: 1, Expand: 5}, 0, api.Usage{}, api.ErrAlias}, {Alias, api.Usage{Aliases: 1}, 9, api.Usage{}, api.ErrAlias}, {Alias, api.Usage{Expand: 1}, math.MaxInt, api.Usage{}, api.ErrExpand}, {Alias, api.Usage{}, -1, api.Usage{}, api.ErrArg}} {
		u, e := c.f(small, c.u, c.n)
		if u != c.want || e != c.e {
			t.Errorf("case %d: %v, %v", i, u, e)
		}
		if u, e := c.f(api.Limits{Depth: 99}, c.u, c.n); u != (api.Usage{}) || e != api.ErrArg {
			t.Errorf("case %d with invalid limits: %v, %v", i, u, e)
		}
	}
}

// P11.7
func TestSums(t *testing.T) {
	l := api.Limits{Depth: 1, Nodes: 10, Bytes: 1}
	for a := range 12 {
		for b := range 12 {
			u, e := Node(l, api.Usage{}, a)
			if e == api.OK {
				u, e = Node(l, u, b)
			}
			if whole, we := Node(l, api.Usage{}, a+b); (e == api.OK) != (we == api.OK) || e == api.OK && (u != whole || !Within(l, u)) {
				t.Errorf("%d and %d", a, b)
			}
		}
	}
}

// P11.6
func TestValue(t *testing.T) {
	list := func(l ...api.Value) api.Value { return api.Value{Kind: api.VList, List: l} }
	deep := list()
	for range 60000 {
		deep = list(deep)
	}
	for i, c := range []struct {
		v api.Value
		e api.Errno
	}{{list(list(), api.Value{}), 0}, {list(), 0}, {list(list(list())), api.ErrDepth}, {list(api.Value{}, api.Value{}, api.Value{}), api.ErrSize}, {list(api.Value{}, api.Value{}, api.Value{}, list(list())), api.ErrDepth}, {deep, api.ErrDepth},
		{api.Value{Kind: 99, List: []api.Value{deep}}, 0}, {api.Value{Kind: api.VList, Fields: []api.Field{{Val: deep}}}, 0}, {api.Value{Kind: api.VMap, Fields: []api.Field{{Val: list(list())}}}, api.ErrDepth}, {api.Value{Kind: api.VMap, Fields: []api.Field{{}, {}, {}}}, api.ErrSize}} {
		if e := Value(small, c.v); e != c.e {
			t.Errorf("case %d: %v", i, e)
		}
	}
	if Value(api.Limits{}, api.Value{}) != api.ErrArg {
		t.Error("Value with invalid limits")
	}
}
