package vcode

import (
	"math/rand"
	"reflect"
	"strings"
	"testing"

	"datakit/api"
	"datakit/brace"
	"datakit/formats"
	"datakit/limit"
	"datakit/numset"
	"datakit/regex"
	"datakit/schema"
	"datakit/validate"
	"datakit/value"
)

func val(t *testing.T, src string) api.Value {
	t.Helper()
	v, at, err := brace.Read(src, limit.Usual())
	if err != api.OK {
		t.Fatal(src, at, err)
	}
	return v
}

func schemas(t *testing.T, defs, root string) api.Schemas {
	t.Helper()
	s, err := schema.Read(val(t, "{defs: "+defs+", root: "+root+"}"))
	if err != api.OK {
		t.Fatal(root, err)
	}
	return s
}

// P48.1
func TestCheck(t *testing.T) {
	any := api.Check{Op: api.SAny}
	machine := formats.Utf()
	checker := func(n ...api.Check) api.Checker { return api.Checker{Nodes: n} }
	for i, test := range []struct {
		c   api.Checker
		err api.Errno
	}{
		{checker(), api.ErrSize}, {api.Checker{Nodes: make([]api.Check, api.MaxSchema+1)}, api.ErrSize}, {checker(any), 0}, {checker(api.Check{}), api.ErrArg}, {checker(api.Check{Op: api.SFormat}), api.ErrArg}, {checker(api.Check{Op: api.SRef}), api.ErrArg}, {checker(api.Check{Op: api.SAny, Mask: 1}), api.ErrArg}, {checker(api.Check{Op: api.SAny, Kids: []int{0}}), api.ErrArg}, {checker(api.Check{Op: api.SAny, Machine: machine}), api.ErrArg}, {checker(api.Check{Op: api.SAny, Required: make([]bool, 1)}), api.ErrArg}, {checker(api.Check{Op: api.SKinds, Mask: 255}), 0}, {checker(api.Check{Op: api.SKinds, Mask: 256}), api.ErrArg}, {checker(api.Check{Op: api.SNumber, Set: numset.All()}), 0}, {checker(api.Check{Op: api.SNumber, Set: api.NumSet{Parts: []api.Part{{Sort: 9}}}}), api.ErrArg}, {checker(api.Check{Op: api.SText, Min: 1, Max: 0}), api.ErrArg}, {checker(api.Check{Op: api.SText, Max: -1}), 0}, {checker(api.Check{Op: api.SMatch, Machine: machine}), 0}, {checker(api.Check{Op: api.SMatch}), api.ErrArg}, {checker(api.Check{Op: api.SValues, Vals: []api.Value{value.Int(1)}}), 0}, {checker(api.Check{Op: api.SValues, Vals: []api.Value{value.List()}}), api.ErrArg},
		{checker(api.Check{Op: api.SList, Max: -1, Kids: []int{0}}), 0}, {checker(api.Check{Op: api.SList, Max: -1}), api.ErrArg}, {checker(api.Check{Op: api.SList, Max: -1, Kids: []int{1}}), api.ErrArg}, {checker(api.Check{Op: api.SList, Max: -1, Kids: []int{-1}}), api.ErrArg}, {checker(api.Check{Op: api.SMap, Kids: []int{0}}), 0}, {checker(api.Check{Op: api.SMap, Keys: []string{"a", "b"}, Required: make([]bool, 2), Kids: []int{0, 0, 0}}), 0}, {checker(api.Check{Op: api.SMap, Keys: []string{"b", "a"}, Required: make([]bool, 2), Kids: []int{0, 0, 0}}), api.ErrArg}, {checker(api.Check{Op: api.SMap, Keys: []string{"a", "a"}, Required: make([]bool, 2), Kids: []int{0, 0, 0}}), api.ErrArg}, {checker(api.Check{Op: api.SMap, Keys: []string{"a"}, Kids: []int{0, 0}}), api.ErrArg}, {checker(api.Check{Op: api.SMap, Keys: []string{"a"}, Required: make([]bool, 1), Kids: []int{0}}), api.ErrArg}, {checker(api.Check{Op: api.SMap, Keys: []string{"\xff"}, Required: make([]bool, 1), Kids: []int{0, 0}}), api.ErrArg}, {checker(api.Check{Op: api.SMap, Keys: []string{strings.Repeat("k", 1025)}, Required: make([]bool, 1), Kids: []int{0, 0}}), api.ErrArg},
		{checker(api.Check{Op: api.SAll}), api.ErrArg}, {checker(api.Check{Op: api.SAll, Kids: []int{0}}), api.ErrGuard}, {checker(any, api.Check{Op: api.SNot, Kids: []int{2}}, api.Check{Op: api.SAnyOf, Kids: []int{0, 1}}), api.ErrGuard}, {checker(api.Check{Op: api.SAll, Kids: []int{1, 1}}, any), 0}, {checker(api.Check{Op: api.SAll, Kids: []int{1}}, api.Check{Op: api.SList, Max: -1, Kids: []int{0}}), 0}, {checker(api.Check{Op: api.SNot, Kids: []int{1, 1}}, any), api.ErrArg}, {checker(api.Check{Op: api.SAll, Kids: []int{0}}, api.Check{}), api.ErrArg},
	} {
		if err := Check(test.c); err != test.err {
			t.Error(i, err)
		}
		if test.err != api.OK && (Run(test.c, value.Int(1)) || Steps(test.c, value.Int(1)) != 0) {
			t.Error(i)
		}
	}
}

// P48.2, P48.3
func TestRun(t *testing.T) {
	c, err := Compile(schemas(t, "{}", `{any: [{match: "a*"}, {kinds: ["number"]}]}`))
	if err != api.OK || len(c.Nodes) != 3 || Steps(c, value.Int(5)) != 3 || Steps(c, value.Text("a")) != 2 {
		t.Error(c, err)
	}
	if !At(c, 2, value.Int(1)) || At(c, 1, value.Int(1)) || At(c, 3, value.Int(1)) || At(c, -1, value.Int(1)) || Run(c, api.Value{Kind: 9}) || Steps(c, api.Value{Kind: 9}) != 0 {
		t.Error("At")
	}
	lists := api.Checker{Nodes: []api.Check{{Op: api.SList, Max: -1, Kids: []int{0}}}}
	for src, want := range map[string]bool{"[]": true, "[[], [[]]]": true, "[[1]]": false, "1": false} {
		if Run(lists, val(t, src)) != want {
			t.Error(src)
		}
	}
	for _, test := range []struct {
		root, in string
		steps    int
	}{{"true", "1", 1}, {"{list: [0, 2, true]}", "[1, 2]", 3}, {"{list: [0, 2, true]}", "[1, 2, 3]", 1}, {"{list: [0, 2, false]}", "[1, 2]", 2}, {"{list: [0, 2, true]}", "1", 1}, {`{map: [[["a", true, false]], true]}`, "{b: 1, c: 2, a: 3}", 2}, {`{map: [[["c", true, false]], true]}`, "{b: 1, d: 2, c: 3}", 3}, {`{map: [[["a", true, false]], true]}`, "{b: 1}", 1}, {`{map: [[], true]}`, "1", 1}, {"{all: [true, false, true]}", "1", 3}, {"{any: [false, true, true]}", "1", 3}, {"{not: {not: true}}", "1", 3}} {
		c, _ := Compile(schemas(t, "{}", test.root))
		if got := Steps(c, val(t, test.in)); got != test.steps {
			t.Error(test, got)
		}
	}
	var nodes []api.Check
	for i := range 60 {
		nodes = append(nodes, api.Check{Op: api.SAll, Kids: []int{i + 1, i + 1}})
	}
	nodes = append(nodes, api.Check{Op: api.SAny})
	if n := Steps(api.Checker{Nodes: nodes}, value.Int(1)); n != api.MaxFuel || !Run(api.Checker{Nodes: nodes}, value.Int(1)) {
		t.Error(n)
	}
}

// P48.4
func TestCompile(t *testing.T) {
	if c, err := Compile(api.Schemas{Root: api.Schema{Op: api.SRef}}); err != api.ErrNotFound || !reflect.DeepEqual(c, api.Checker{}) {
		t.Error(err)
	}
	big := `{match: "(a|b)*a(a|b){8,8}"}`
	for _, s := range []api.Schemas{schemas(t, "{}", big), schemas(t, "{d: {list: [0, 1, "+big+"]}}", "true")} {
		if c, err := Compile(s); err != api.ErrLimit || c.Nodes != nil {
			t.Error(err)
		}
	}
	s := schemas(t, `{a: {ref: "b"}, b: {map: [[["z", true, {ref: "a"}], ["c", false, {format: "hex"}]], {ref: "b"}]}}`, `{ref: "a"}`)
	c, err := Compile(s)
	if err != api.OK || Check(c) != api.OK || len(c.Nodes) != 2 || c.Nodes[0].Op != api.SMap || !reflect.DeepEqual(c.Nodes[0].Keys, []string{"c", "z"}) || !reflect.DeepEqual(c.Nodes[0].Required, []bool{false, true}) {
		t.Error(c, err)
	}
}

func randomSchema(r *rand.Rand, depth int) api.Schema {
	if depth == 0 {
		return []api.Schema{{Op: api.SAny}, {Op: api.SNone}, {Op: api.SKinds, Mask: r.Intn(256)}, {Op: api.SText, Min: r.Intn(2), Max: r.Intn(3) + 1}, {Op: api.SRef, Name: "d"}, {Op: api.SFormat, Name: "hex"}, {Op: api.SNumber, Set: api.NumSet{Parts: []api.Part{{Sort: r.Intn(3)}}}}, {Op: api.SValues, Vals: []api.Value{value.Int(1), value.Text("a")}}, {Op: api.SMatch, Pattern: regex.Literal("a")}}[r.Intn(9)]
	}
	switch r.Intn(6) {
	case 0:
		return api.Schema{Op: api.SList, Min: r.Intn(2), Max: r.Intn(3) + 1, Args: []api.Schema{randomSchema(r, depth-1)}}
	case 1, 2:
		x := api.Schema{Op: api.SMap, Args: []api.Schema{randomSchema(r, depth-1)}}
		for _, i := range r.Perm(3)[:r.Intn(4)] {
			x.Props = append(x.Props, api.Prop{Key: string(rune('a' + i)), Required: r.Intn(2) == 0, Schema: randomSchema(r, depth-1)})
		}
		return x
	case 3:
		return api.Schema{Op: api.SNot, Args: []api.Schema{randomSchema(r, depth-1)}}
	}
	return api.Schema{Op: api.SAll + r.Intn(2), Args: []api.Schema{randomSchema(r, depth-1), randomSchema(r, depth-1)}}
}

func randomValue(r *rand.Rand, depth int) api.Value {
	k := r.Intn(7)
	if depth == 0 {
		k = r.Intn(4)
	}
	switch k {
	case 0:
		return value.Null()
	case 1:
		return value.Int(r.Intn(3))
	case 2, 3:
		return value.Text([]string{"", "a", "00", "abcd"}[r.Intn(4)])
	case 4:
		v := api.Value{Kind: api.VList}
		for range r.Intn(4) {
			v.List = append(v.List, randomValue(r, depth-1))
		}
		return v
	}
	v := api.Value{Kind: api.VMap}
	for _, i := range r.Perm(4)[:r.Intn(4)] {
		v.Fields = append(v.Fields, api.Field{Key: string(rune('a' + i)), Val: randomValue(r, depth-1)})
	}
	return v
}

// P48.4, P48.5, W6
func TestSame(t *testing.T) {
	r := rand.New(rand.NewSource(1))
	for range 1500 {
		s := api.Schemas{Defs: []api.Def{{Name: "d", Schema: api.Schema{Op: api.SList, Max: -1, Args: []api.Schema{randomSchema(r, 1)}}}}}
		s.Root = randomSchema(r, r.Intn(4))
		c, err := Compile(s)
		if err != api.OK || Check(c) != api.OK || len(c.Nodes) > schema.Size(s.Root)+schema.Size(s.Defs[0].Schema) {
			t.Fatal(err)
		}
		for range 5 {
			v := randomValue(r, 3)
			want, _ := validate.Valid(s, v)
			if Run(c, v) != want || Steps(c, v) < 1 {
				t.Fatal(s, v, want)
			}
		}
	}
}
