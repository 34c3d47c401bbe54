package vstream

import (
	"math/rand"
	"testing"

	"datakit/api"
	"datakit/brace"
	"datakit/event"
	"datakit/limit"
	"datakit/regex"
	"datakit/validate"
	"datakit/value"
	"datakit/vcode"
)

func val(t *testing.T, src string) api.Value {
	t.Helper()
	v, _, err := brace.Read(src, limit.Usual())
	if err != api.OK {
		t.Fatal(src, err)
	}
	return v
}

var numbers = api.Checker{Nodes: []api.Check{{Op: api.SList, Max: 3, Kids: []int{1}}, {Op: api.SKinds, Mask: 1 << api.VNum}}}

// P49.1 to P49.5
func TestMachine(t *testing.T) {
	if m, err := New(api.Checker{}); m != nil || err != api.ErrSize {
		t.Error(err)
	}
	if ok, err := Run(api.Checker{}, nil); ok || err != api.ErrSize {
		t.Error(err)
	}
	m, _ := New(numbers)
	events := event.Of(val(t, `[1, "x"]`))
	for i, e := range events {
		if _, err := m.End(); err != api.ErrTruncated {
			t.Error(err)
		}
		if err := m.Feed(e); err != api.OK || m.Held() > 2*2 {
			t.Error(i, err, m.Held())
		}
		if m.Hopeless() && i < 2 {
			t.Error("too early")
		}
	}
	for range 2 {
		if ok, err := m.End(); ok || err != api.OK || !m.Hopeless() || m.Held() != 0 {
			t.Error(ok, err)
		}
	}
	if err := m.Feed(events[0]); err != api.ErrState {
		t.Error(err)
	}
	if _, err := m.End(); err != api.ErrState || m.Held() != 0 || m.Hopeless() {
		t.Error(err)
	}
	m, _ = New(numbers)
	if err := m.Feed(api.Event{Kind: api.EvKey, Key: "a"}); err != api.ErrState {
		t.Error(err)
	}
	if err := m.Feed(api.Event{Kind: api.EvListStart}); err != api.ErrState {
		t.Error(err)
	}
	if _, err := m.End(); err != api.ErrState {
		t.Error(err)
	}
	var none *Machine
	if _, err := none.End(); err != api.ErrState || none.Feed(api.Event{}) != api.ErrState || none.Held() != 0 || none.Hopeless() {
		t.Error("nil")
	}
	start, fields, key := api.Event{Kind: api.EvListStart}, api.Event{Kind: api.EvMapStart}, api.Event{Kind: api.EvKey, Key: "a"}
	one := api.Event{Kind: api.EvScalar, Val: value.Int(1)}
	for i, test := range []struct {
		l   []api.Event
		err api.Errno
	}{{nil, api.ErrTruncated}, {[]api.Event{start, one}, api.ErrTruncated}, {[]api.Event{start, {}}, api.ErrKind}, {[]api.Event{fields, key, one, key}, api.ErrExists}, {[]api.Event{fields, {Kind: api.EvKey, Key: "\xff"}}, api.ErrText}, {[]api.Event{start, {Kind: api.EvListEnd}, one}, api.ErrState}, {[]api.Event{start, {Kind: api.EvListEnd}}, api.OK}} {
		ok, err := Run(numbers, test.l)
		b := event.New()
		want := api.OK
		for _, e := range test.l {
			if want == api.OK {
				want = b.Add(e)
			}
		}
		if err != test.err || ok != (err == api.OK) || want != api.OK && want != err {
			t.Error(i, ok, err)
		}
	}
}

func randomSchema(r *rand.Rand, depth int) api.Schema {
	if depth == 0 {
		return []api.Schema{{Op: api.SAny}, {Op: api.SNone}, {Op: api.SKinds, Mask: r.Intn(256)}, {Op: api.SText, Min: r.Intn(2), Max: r.Intn(3) + 1}, {Op: api.SRef, Name: "d"}, {Op: api.SNumber, Set: api.NumSet{Parts: []api.Part{{Sort: r.Intn(3)}}}}, {Op: api.SValues, Vals: []api.Value{value.Int(1), value.Text("a")}}, {Op: api.SMatch, Pattern: regex.Literal("a")}}[r.Intn(8)]
	}
	switch r.Intn(6) {
	case 0:
		return api.Schema{Op: api.SList, Min: r.Intn(2), Max: r.Intn(3) + 1, Args: []api.Schema{randomSchema(r, depth-1)}}
	case 1, 2:
		x := api.Schema{Op: api.SMap, Args: []api.Schema{randomSchema(r, depth-1)}}
		for _, i := range r.Perm(3)[:r.Intn(4)] {
			x.Props = append(x.Props, api.Prop{Key: string(rune('a' + i)), Required: r.Intn(2) == 0, Schema: randomSchema(r, depth-1)})
		}
		return x
	case 3:
		return api.Schema{Op: api.SNot, Args: []api.Schema{randomSchema(r, depth-1)}}
	}
	return api.Schema{Op: api.SAll + r.Intn(2), Args: []api.Schema{randomSchema(r, depth-1), randomSchema(r, depth-1)}}
}

func randomValue(r *rand.Rand, depth int) api.Value {
	k := r.Intn(7)
	if depth == 0 {
		k = r.Intn(4)
	}
	switch k {
	case 0:
		return value.Null()
	case 1:
		return value.Int(r.Intn(3))
	case 2, 3:
		return value.Text([]string{"", "a", "00", "abcd"}[r.Intn(4)])
	case 4:
		v := api.Value{Kind: api.VList}
		for range r.Intn(4) {
			v.List = append(v.List, randomValue(r, depth-1))
		}
		return v
	}
	v := api.Value{Kind: api.VMap}
	for _, i := range r.Perm(4)[:r.Intn(4)] {
		v.Fields = append(v.Fields, api.Field{Key: string(rune('a' + i)), Val: randomValue(r, depth-1)})
	}
	return v
}

// P49.3, P49.4, P49.6, W6
func TestSame(t *testing.T) {
	r := rand.New(rand.NewSource(1))
	yes := 0
	for range 2000 {
		s := api.Schemas{Defs: []api.Def{{Name: "d", Schema: api.Schema{Op: api.SList, Max: -1, Args: []api.Schema{randomSchema(r, 1)}}}}}
		s.Root = randomSchema(r, r.Intn(4))
		c, err := vcode.Compile(s)
		if err != api.OK {
			t.Fatal(err)
		}
		for range 5 {
			v := randomValue(r, 3)
			want, _ := validate.Valid(s, v)
			if got, err := Run(c, event.Of(v)); got != want || err != api.OK {
				t.Fatal(s, v, got, err)
			}
			if want {
				yes++
			}
			m, _ := New(c)
			depth := 0
			for _, e := range event.Of(v) {
				m.Feed(e)
				switch e.Kind {
				case api.EvListStart, api.EvMapStart:
					depth++
				case api.EvListEnd, api.EvMapEnd:
					depth--
				}
				if m.Held() > len(c.Nodes)*(depth+1) || m.Hopeless() && want {
					t.Fatal(s, v, m.Held())
				}
			}
			if m.Hopeless() == want {
				t.Fatal("Hopeless")
			}
		}
	}
	if yes < 1000 {
		t.Error(yes)
	}
}
