package schema

import (
	"math/rand"
	"reflect"
	"slices"
	"strings"
	"testing"

	"datakit/api"
	"datakit/brace"
	"datakit/decimal"
	"datakit/limit"
	"datakit/regex"
	"datakit/value"
)

func val(t *testing.T, src string) api.Value {
	t.Helper()
	v, at, err := brace.Read(src, limit.Usual())
	if err != api.OK {
		t.Fatal(src, at, err)
	}
	return v
}

var (
	anything = api.Schema{Op: api.SAny}
	nothing  = api.Schema{Op: api.SNone}
)

func of(op int, args ...api.Schema) api.Schema { return api.Schema{Op: op, Args: args} }
func ref(name string) api.Schema               { return api.Schema{Op: api.SRef, Name: name} }
func listOf(min, max int, arg api.Schema) api.Schema {
	return api.Schema{Op: api.SList, Min: min, Max: max, Args: []api.Schema{arg}}
}
func fieldsOf(arg api.Schema, props ...api.Prop) api.Schema {
	return api.Schema{Op: api.SMap, Props: props, Args: []api.Schema{arg}}
}
func root(x api.Schema, defs ...api.Def) api.Schemas { return api.Schemas{Root: x, Defs: defs} }

// P45.1
func TestCheckNodes(t *testing.T) {
	p, _ := regex.Parse("a*")
	for i, test := range []struct {
		x   api.Schema
		err api.Errno
	}{
		{anything, 0}, {nothing, 0}, {api.Schema{}, api.ErrArg}, {api.Schema{Op: 15}, api.ErrArg}, {api.Schema{Op: api.SAny, Mask: 1}, api.ErrArg}, {of(api.SAny, anything), api.ErrArg}, {api.Schema{Op: api.SAny, Max: -1}, api.ErrArg}, {api.Schema{Op: api.SNone, Name: "x"}, api.ErrArg}, {api.Schema{Op: api.SAny, Pattern: p}, api.ErrArg}, {api.Schema{Op: api.SAny, Vals: make([]api.Value, 1)}, api.ErrArg}, {api.Schema{Op: api.SAny, Set: api.NumSet{Parts: make([]api.Part, 1)}}, api.ErrArg}, {api.Schema{Op: api.SAny, Props: make([]api.Prop, 1)}, api.ErrArg},
		{api.Schema{Op: api.SKinds, Mask: 255}, 0}, {api.Schema{Op: api.SKinds, Mask: 256}, api.ErrArg}, {api.Schema{Op: api.SKinds, Mask: -1}, api.ErrArg}, {api.Schema{Op: api.SKinds}, 0}, {api.Schema{Op: api.SNumber}, 0}, {api.Schema{Op: api.SNumber, Set: api.NumSet{Parts: []api.Part{{Sort: 7}}}}, api.ErrArg}, {api.Schema{Op: api.SText, Min: 2, Max: 2}, 0}, {api.Schema{Op: api.SText, Min: 2, Max: 1}, api.ErrArg}, {api.Schema{Op: api.SText, Min: -1, Max: 1}, api.ErrArg}, {api.Schema{Op: api.SText, Max: -2}, api.ErrArg}, {api.Schema{Op: api.SText, Min: api.MaxText, Max: -1}, 0}, {api.Schema{Op: api.SText, Min: api.MaxText + 1, Max: -1}, api.ErrArg}, {api.Schema{Op: api.SText, Max: api.MaxText + 1}, api.ErrArg},
		{api.Schema{Op: api.SMatch, Pattern: p}, 0}, {api.Schema{Op: api.SMatch}, 0}, {api.Schema{Op: api.SMatch, Pattern: api.Pattern{Op: 99}}, api.ErrArg}, {api.Schema{Op: api.SFormat, Name: "hex"}, 0}, {api.Schema{Op: api.SFormat, Name: "Hex"}, api.ErrNotFound}, {api.Schema{Op: api.SFormat, Name: "Hex", Mask: 1}, api.ErrArg}, {api.Schema{Op: api.SValues}, 0}, {api.Schema{Op: api.SValues, Vals: make([]api.Value, api.MaxParts)}, 0}, {api.Schema{Op: api.SValues, Vals: make([]api.Value, api.MaxParts+1)}, api.ErrArg}, {api.Schema{Op: api.SValues, Vals: []api.Value{value.List()}}, api.ErrArg}, {api.Schema{Op: api.SValues, Vals: []api.Value{value.Text("\xff")}}, api.ErrArg},
		{listOf(0, -1, anything), 0}, {listOf(1, 0, anything), api.ErrArg}, {listOf(0, api.MaxNodes+1, anything), api.ErrArg}, {of(api.SList), api.ErrArg}, {listOf(0, -1, api.Schema{}), api.ErrArg}, {fieldsOf(anything), 0}, {of(api.SMap), api.ErrArg}, {fieldsOf(anything, api.Prop{Key: "\xff", Schema: anything}), api.ErrArg}, {fieldsOf(anything, api.Prop{Key: strings.Repeat("k", 1025), Schema: anything}), api.ErrArg}, {fieldsOf(anything, api.Prop{Schema: anything}, api.Prop{Schema: anything}), api.ErrExists}, {fieldsOf(api.Schema{}, api.Prop{Schema: ref("x")}), api.ErrNotFound}, {fieldsOf(ref("x"), api.Prop{Schema: api.Schema{}}), api.ErrArg}, {of(api.SAll), api.ErrArg}, {of(api.SAnyOf), api.ErrArg}, {of(api.SAll, anything), 0}, {of(api.SNot), api.ErrArg}, {of(api.SNot, anything, anything), api.ErrArg}, {ref("x"), api.ErrNotFound}, {api.Schema{Op: api.SRef, Name: "x", Min: 1}, api.ErrArg},
	} {
		if err := Check(root(test.x)); err != test.err {
			t.Error(i, err)
		}
		if v, err := Write(root(test.x)); err != test.err || err != api.OK && !value.Same(v, api.Value{}) {
			t.Error(i, err)
		}
	}
}

func nested(n int) api.Schema {
	x := anything
	for range n - 1 {
		x = of(api.SNot, x)
	}
	return x
}

// P45.1, P45.3
func TestCheckSchemas(t *testing.T) {
	def := func(name string, x api.Schema) api.Def { return api.Def{Name: name, Schema: x} }
	tree := fieldsOf(nothing, api.Prop{Key: "left", Schema: ref("tree")}, api.Prop{Key: "right", Schema: ref("tree")})
	wide := of(api.SAll)
	for range 1023 {
		wide.Args = append(wide.Args, anything)
	}
	wider := of(api.SAll, append(slices.Clone(wide.Args), anything)...)
	var defs []api.Def
	for i := range 65 {
		defs = append(defs, def(strings.Repeat("d", i/2+1)+string(rune('a'+i%2)), anything))
	}
	for i, test := range []struct {
		s     api.Schemas
		err   api.Errno
		guard string
	}{
		{root(ref("tree"), def("tree", tree)), 0, ""}, {root(anything, def("a", of(api.SAnyOf, ref("a"), anything))), api.ErrGuard, "a"}, {root(anything, def("a", ref("b")), def("b", of(api.SNot, ref("a")))), api.ErrGuard, "a"}, {root(anything, def("c", ref("a")), def("a", ref("b")), def("b", ref("a"))), api.ErrGuard, "a"}, {root(anything, def("a", listOf(0, -1, ref("a")))), 0, ""}, {root(anything, def("a", of(api.SAll, listOf(0, -1, ref("a")), ref("b"))), def("b", nothing)), 0, ""},
		{root(anything, def("", anything)), api.ErrArg, ""}, {root(anything, def(strings.Repeat("x", 65), anything)), api.ErrArg, ""}, {root(anything, def("\xff", anything)), api.ErrArg, ""}, {root(anything, def("é !", anything)), 0, ""}, {root(anything, def("a", anything), def("a", api.Schema{})), api.ErrExists, ""}, {root(api.Schema{}, def("a", ref("zz"))), api.ErrNotFound, ""}, {root(ref("b"), def("a", ref("b")), def("b", anything)), 0, ""},
		{root(nested(48)), 0, ""}, {root(nested(49)), api.ErrDepth, ""}, {root(of(api.SAll, nested(49), api.Schema{})), api.ErrArg, ""}, {root(wide), 0, ""}, {root(wider), api.ErrSize, ""}, {root(wide, def("a", anything)), api.ErrSize, ""}, {root(of(api.SAll, wider, nested(49))), api.ErrDepth, ""}, {root(anything, defs...), api.ErrSize, ""}, {root(anything, defs[1:]...), 0, ""}, {root(anything, append(slices.Clone(defs), def("z", ref("z")))...), api.ErrSize, "z"},
	} {
		if err := Check(test.s); err != test.err {
			t.Error(i, err)
		}
		if name, ok := Guarded(test.s); name != test.guard || ok != (test.guard == "") {
			t.Error(i, name, ok)
		}
	}
	if name, ok := Guarded(root(anything, def("a", ref("nowhere")), def("b", api.Schema{Op: 99, Args: []api.Schema{ref("b")}}))); ok || name != "b" {
		t.Error(name)
	}
	s := root(anything, def("a", anything), def("b", nothing), def("a", nothing))
	if x, ok := Lookup(s, "a"); !ok || !Same(x, anything) {
		t.Error(x)
	}
	if x, ok := Lookup(s, "c"); ok || !reflect.DeepEqual(x, api.Schema{}) {
		t.Error(x)
	}
	x, _ := Lookup(root(anything, def("t", tree)), "t")
	if !reflect.DeepEqual(x, tree) {
		t.Error(x)
	}
	x.Props[0].Schema = anything
	if tree.Props[0].Schema.Op != api.SRef {
		t.Error("shared memory")
	}
}

// P45.2, P45.6
func TestSizeRefsSame(t *testing.T) {
	x := fieldsOf(ref("c"), api.Prop{Key: "k", Schema: of(api.SAll, ref("b"), ref("a"), ref("b"))})
	if Size(x) != 6 || !slices.Equal(Refs(x), []string{"a", "b", "c"}) {
		t.Error(Size(x), Refs(x))
	}
	if Size(nested(60)) != 48 || Refs(of(api.SNot, nested(48))) != nil {
		t.Error("depth")
	}
	a := api.Schema{Op: api.SValues, Vals: []api.Value{value.Int(1)}}
	b := api.Schema{Op: api.SValues, Vals: []api.Value{value.Int(1)}}
	if !Same(a, b) || !Same(x, x) {
		t.Error("Same")
	}
	b.Vals[0] = value.Int(2)
	for _, y := range []api.Schema{b, {Op: api.SValues}, {Op: api.SAny}} {
		if Same(a, y) {
			t.Error(y)
		}
	}
	y := fieldsOf(ref("c"), api.Prop{Key: "k", Required: true, Schema: x.Props[0].Schema})
	if Same(x, y) || Same(listOf(0, 1, anything), listOf(0, 2, anything)) || Same(listOf(0, 1, anything), listOf(0, 1, nothing)) || Same(ref("a"), ref("b")) {
		t.Error("Same")
	}
}

// P45.4, P45.5
func TestWriteRead(t *testing.T) {
	half, _ := decimal.Parse("0.5")
	zero := api.Bound{Set: true}
	p, _ := regex.Parse("a*")
	number := func(parts ...api.Part) api.Schema {
		return api.Schema{Op: api.SNumber, Set: api.NumSet{Parts: parts}}
	}
	for want, x := range map[string]api.Schema{
		"true": anything, "false": nothing, "{list: [1, null, {number: [{from: 0}]}]}": listOf(1, -1, number(api.Part{Lo: zero})), `{kinds: ["null", "map"]}`: {Op: api.SKinds, Mask: 129}, `{number: [{above: 0.5, below: 0.5, sort: "whole"}, {to: 0, sort: "fraction"}, {}]}`: number(api.Part{Lo: api.Bound{Set: true, Num: half, Open: true}, Hi: api.Bound{Set: true, Num: half, Open: true}, Sort: 1}, api.Part{Hi: zero, Sort: 2}, api.Part{}), "{text: [0, 5]}": {Op: api.SText, Max: 5}, "{text: [0, null]}": {Op: api.SText, Max: -1}, `{match: "a*"}`: {Op: api.SMatch, Pattern: p}, `{format: "hex"}`: {Op: api.SFormat, Name: "hex"}, `{values: [null, 1, "a", b"AA=="]}`: {Op: api.SValues, Vals: []api.Value{{}, value.Int(1), value.Text("a"), value.Bytes([]byte{0})}}, `{map: [[["b", true, true], ["a", false, false]], {ref: "d"}]}`: fieldsOf(ref("d"), api.Prop{Key: "b", Required: true, Schema: anything}, api.Prop{Key: "a", Schema: nothing}), "{all: [true]}": of(api.SAll, anything), "{any: [true, {not: false}]}": of(api.SAnyOf, anything, of(api.SNot, nothing)),
	} {
		s := root(x, api.Def{Name: "d", Schema: anything})
		v, err := Write(s)
		if err != api.OK || !value.Same(v, val(t, "{defs: {d: true}, root: "+want+"}")) {
			text, _ := brace.Inline(v)
			t.Error(text, err)
		}
		back, err := Read(v)
		if err != api.OK || !Same(back.Root, x) || len(back.Defs) != 1 {
			t.Error(want, err)
		}
	}
	for _, root := range []string{`{text: [0, 5], format: "hex"}`, "1", "null", "{}", "{text: [0]}", "{text: [0, 5, 1]}", "{text: [5, 0]}", "{text: [0.5, 1]}", `{kinds: ["map", "null"]}`, `{kinds: ["x"]}`, `{kinds: ["null", "null"]}`, "{number: [{to: 1, from: 0}]}", "{number: [{from: 0, above: 0}]}", `{number: [{sort: "all"}]}`, `{match: "(a)"}`, "{match: 1}", `{format: "x"}`, "{values: [[]]}", "{list: [0, null]}", "{all: []}", "{not: [true]}", `{ref: "nowhere"}`, `{map: [[["a", 1, true]], true]}`, `{map: [[["a", true, true], ["a", true, true]], true]}`, "{any: true}", "{nope: true}", "{text: [-1, null]}"} {
		v := val(t, "{defs: {}, root: "+root+"}")
		if s, err := Read(v); err != api.ErrSyntax || !reflect.DeepEqual(s, api.Schemas{}) {
			t.Error(root, err)
		}
	}
	for _, src := range []string{"true", "{root: true}", "{defs: {}}", "{root: true, defs: {}}", "{defs: [], root: true}", "{defs: {}, root: true, x: 1}", `{defs: {"": true}, root: true}`, `{defs: {a: {ref: "a"}}, root: true}`} {
		if _, err := Read(val(t, src)); err != api.ErrSyntax {
			t.Error(src, err)
		}
	}
	if _, err := Read(api.Value{Kind: 9}); err != api.ErrSyntax {
		t.Error(err)
	}
	x := anything
	for range 30 {
		x = listOf(0, -1, x)
	}
	if v, err := Write(root(x)); err != api.ErrDepth || !value.Same(v, api.Value{}) {
		t.Error(err)
	}
}

func random(r *rand.Rand, depth int) api.Schema {
	if depth == 0 {
		return []api.Schema{anything, nothing, {Op: api.SKinds, Mask: r.Intn(256)}, {Op: api.SText, Min: 1, Max: -1}, ref("d"), {Op: api.SFormat, Name: "name"}}[r.Intn(6)]
	}
	switch r.Intn(4) {
	case 0:
		return listOf(0, r.Intn(3), random(r, depth-1))
	case 1:
		return fieldsOf(random(r, depth-1), api.Prop{Key: "b", Required: true, Schema: random(r, depth-1)}, api.Prop{Key: "a", Schema: random(r, depth-1)})
	}
	return of([]int{api.SAll, api.SAnyOf}[r.Intn(2)], random(r, depth-1), random(r, depth-1))
}

// P45.7
func TestBack(t *testing.T) {
	r := rand.New(rand.NewSource(1))
	for range 500 {
		s := root(random(r, 4), api.Def{Name: "d", Schema: listOf(0, -1, random(r, 2))})
		v, err := Write(s)
		if err != api.OK {
			t.Fatal(err)
		}
		back, err := Read(v)
		again, _ := Write(back)
		if err != api.OK || !Same(back.Root, s.Root) || !Same(back.Defs[0].Schema, s.Defs[0].Schema) || !value.Same(again, v) {
			t.Fatal(err)
		}
	}
}
