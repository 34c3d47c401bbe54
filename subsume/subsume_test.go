package subsume

import (
	"math/rand"
	"reflect"
	"strings"
	"testing"

	"datakit/api"
	"datakit/brace"
	"datakit/limit"
	"datakit/schema"
	"datakit/validate"
	"datakit/value"
)

func val(t *testing.T, src string) api.Value {
	t.Helper()
	v, at, err := brace.Read(src, limit.Usual())
	if err != api.OK {
		t.Fatal(src, at, err)
	}
	return v
}

func schemas(t *testing.T, defs, root string) api.Schemas {
	t.Helper()
	s, err := schema.Read(val(t, "{defs: "+defs+", root: "+root+"}"))
	if err != api.OK {
		t.Fatal(defs, root, err)
	}
	return s
}

// P51.1
func TestWitness(t *testing.T) {
	next := "1." + strings.Repeat("0", 118) + "1"
	for _, test := range []struct {
		defs, root string
		full       bool
	}{
		{"{}", "true", true}, {"{}", "false", false}, {"{}", "{not: true}", false}, {"{}", "{kinds: []}", false}, {`{a: {list: [1, null, {ref: "a"}]}}`, `{ref: "a"}`, false}, {`{a: {list: [0, null, {ref: "a"}]}}`, `{ref: "a"}`, true}, {"{}", `{map: [[["a", true, false]], true]}`, false}, {"{}", `{map: [[["a", false, false]], true]}`, true}, {"{}", "{list: [1, null, {number: [{above: 1, below: " + next + "}]}]}", false}, {"{}", "{list: [1, null, {number: [{above: 1, to: " + next + "}]}]}", true},
		{"{}", "{all: [{kinds: [\"bool\"]}, {not: {values: [true]}}]}", true}, {"{}", "{all: [{kinds: [\"bool\"]}, {not: {values: [true]}}, {not: {values: [false]}}]}", false}, {"{}", "{all: [{kinds: [\"null\"]}, {not: {values: [null]}}]}", false}, {"{}", "{all: [{kinds: [\"time\"]}, {not: {values: [t\"0001-01-01\", t\"0001-01-02\"]}}]}", true}, {"{}", "{all: [{kinds: [\"binary\"]}, {not: {values: [b\"AAA=\"]}}]}", true}, {"{}", `{all: [{text: [0, 0]}, {not: {values: [""]}}]}`, false}, {"{}", `{all: [{text: [0, 1]}, {not: {values: ["", "a"]}}]}`, true}, {"{}", "{all: [{text: [3, 20]}, {not: {text: [4, 19]}}, {not: {text: [0, 3]}}]}", true}, {"{}", "{all: [{text: [4, 19]}, {not: {text: [3, 20]}}]}", false}, {"{}", "{all: [{kinds: [\"string\"]}, {not: {text: [0, null]}}]}", false}, {"{}", "{text: [65536, null]}", true}, {"{}", "{all: [{number: [{from: 0, to: 1, sort: \"whole\"}]}, {not: {values: [0, 1]}}]}", false}, {"{}", "{all: [{number: [{from: 0, to: 2, sort: \"whole\"}]}, {not: {values: [0, 2]}}]}", true}, {"{}", "{all: [{number: [{from: 0}]}, {not: {number: [{}]}}]}", false},
		{"{}", "{all: [{list: [0, 2, {values: [1, 2]}]}, {not: {list: [0, 2, {values: [1]}]}}, {not: {list: [0, 2, {values: [2]}]}}]}", true}, {"{}", "{all: [{list: [0, 1, {values: [1, 2]}]}, {not: {list: [0, 2, {values: [1]}]}}, {not: {list: [0, 2, {values: [2]}]}}]}", false}, {"{}", "{all: [{list: [0, 1, {values: [1, 2, 3]}]}, {not: {list: [0, 2, {values: [1]}]}}, {not: {list: [0, 2, {values: [2]}]}}]}", true}, {"{}", "{all: [{list: [1, 2, true]}, {not: {list: [0, 1, true]}}]}", true}, {"{}", "{all: [{list: [1, 2, true]}, {not: {list: [0, 2, true]}}]}", false}, {"{}", "{all: [{list: [0, null, false]}, {not: {list: [0, 0, true]}}]}", false}, {"{}", "{list: [65535, null, true]}", true}, {"{}", "{list: [65536, null, true]}", false}, {"{}", "{list: [300, null, {list: [300, null, true]}]}", false},
		{"{}", `{all: [{map: [[["a", true, {values: [1, 2]}]], false]}, {not: {map: [[["a", true, {values: [1]}]], true]}}]}`, true}, {"{}", `{all: [{map: [[["a", true, {values: [1, 2]}]], false]}, {not: {map: [[["a", true, {values: [1]}]], true]}}, {not: {map: [[["a", true, {values: [2]}]], true]}}]}`, false}, {"{}", `{all: [{map: [[["a", false, {values: [1, 2]}]], false]}, {not: {map: [[["a", true, {values: [1]}]], true]}}, {not: {map: [[["a", true, {values: [2]}]], true]}}]}`, true}, {"{}", `{all: [{map: [[], {values: [1, 2]}]}, {not: {map: [[], {values: [1]}]}}, {not: {map: [[], {values: [2]}]}}]}`, true}, {"{}", `{all: [{map: [[], {values: [1]}]}, {not: {map: [[["a", true, true]], true]}}, {not: {map: [[["a", false, false]], true]}}]}`, false}, {"{}", `{all: [{map: [[], true]}, {not: {map: [[], true]}}]}`, false}, {"{}", `{all: [{map: [[["k0", true, true]], {values: [1]}]}, {not: {map: [[["k0", true, true]], false]}}]}`, true},
		{"{}", `{all: [{match: "a*"}, {not: {text: [0, 3]}}]}`, true}, {"{}", `{all: [{match: "a{0,3}"}, {not: {text: [0, 3]}}]}`, false}, {"{}", `{all: [{format: "hex"}, {format: "integer"}, {not: {values: ["10", "11"]}}]}`, true}, {"{}", `{all: [{format: "date"}, {format: "hex"}]}`, false}, {"{}", `{match: "\\xff"}`, false}, {"{}", `{all: [{match: "a|b"}, {not: {values: ["a", "b"]}}]}`, false}, {`{t: {map: [[["l", true, {any: [{ref: "t"}, {kinds: ["null"]}]}]], false]}}`, `{ref: "t"}`, true}, {`{t: {map: [[["l", true, {ref: "t"}]], false]}}`, `{ref: "t"}`, false}, {`{a: {any: [{ref: "b"}, {ref: "b"}]}, b: {values: [1]}}`, `{ref: "a"}`, true}, {`{a: {ref: "b"}, b: {all: [{list: [1, 1, {not: {ref: "a"}}]}, {not: {list: [0, 1, {kinds: ["null", "bool", "number", "time", "string", "binary", "map"]}]}}]}}`, `{ref: "a"}`, true},
	} {
		s := schemas(t, test.defs, test.root)
		v, ok, err := Witness(s, s.Root)
		empty, err2 := Empty(s, s.Root)
		if ok != test.full || err != api.OK || err2 != api.OK || empty == ok {
			t.Errorf("%s: %v %v %v", test.root, ok, err, err2)
		}
		if ok {
			if is, err := validate.Valid(s, v); !is || err != api.OK {
				t.Errorf("%s: %v %v", test.root, v, err)
			}
		} else if !reflect.DeepEqual(v, api.Value{}) {
			t.Error(v)
		}
	}
	if v, ok, err := Witness(api.Schemas{}, api.Schema{Op: api.SRef}); ok || err != api.ErrNotFound || !reflect.DeepEqual(v, api.Value{}) {
		t.Error(err)
	}
	if empty, err := Empty(api.Schemas{}, api.Schema{}); empty || err != api.ErrArg {
		t.Error(err)
	}
	s := schemas(t, "{}", `{all: [{match: "(a|b)*a(a|b){8,8}"}, {text: [1, 2]}]}`)
	if _, ok, err := Witness(s, s.Root); ok || err != api.ErrLimit && err != api.OK {
		t.Error(err)
	}
}

// P51.2, P51.3, P51.5
func TestDifference(t *testing.T) {
	s := schemas(t, `{d: {list: [0, null, {ref: "d"}]}}`, "true")
	for _, test := range []struct {
		a, b         string
		subsumes, by bool
	}{{"{number: [{above: 0}]}", "{number: [{above: 1}]}", true, false}, {"true", "false", true, false}, {`{ref: "d"}`, "{list: [0, 0, true]}", true, false}, {`{ref: "d"}`, `{list: [0, null, {ref: "d"}]}`, true, true}, {"{values: [1]}", "{number: [{from: 1, to: 1}]}", true, true}, {"{text: [0, 5]}", "{text: [3, 8]}", false, false}, {"{any: [{values: [1]}, {values: [2]}]}", "{values: [2, 1]}", true, true}, {"{not: {values: [1]}}", "{values: [2]}", true, false}, {`{map: [[["a", false, true]], true]}`, `{map: [[], true]}`, true, true}, {`{map: [[["a", true, true]], true]}`, `{map: [[], true]}`, false, true}} {
		a, b := schemas(t, `{d: {list: [0, null, {ref: "d"}]}}`, test.a).Root, schemas(t, `{d: {list: [0, null, {ref: "d"}]}}`, test.b).Root
		for i, want := range []bool{test.subsumes, test.by} {
			x, y := a, b
			if i == 1 {
				x, y = b, a
			}
			ok, err := Subsumes(s, x, y)
			v, differ, err2 := Difference(s, y, x)
			if ok != want || differ == want || err != api.OK || err2 != api.OK {
				t.Error(test, i, ok, err)
			}
			if differ {
				in, _ := validate.Match(s, y, v)
				out, _ := validate.Match(s, x, v)
				if !in || out {
					t.Error(test, v)
				}
			}
		}
		if ok, err := Equivalent(s, a, b); ok != (test.subsumes && test.by) || err != api.OK {
			t.Error(test, ok)
		}
	}
	bad, other := api.Schema{Op: api.SRef, Name: "zz"}, api.Schema{}
	if _, err := Subsumes(s, bad, other); err != api.ErrNotFound {
		t.Error(err)
	}
	if _, _, err := Difference(s, other, bad); err != api.ErrArg {
		t.Error(err)
	}
	if _, err := Equivalent(s, s.Root, bad); err != api.ErrNotFound {
		t.Error(err)
	}
}

// P51.4, P51.6
func TestCommon(t *testing.T) {
	a := schemas(t, `{d: {list: [0, null, {ref: "e"}]}, e: {values: [1]}}`, `{ref: "d"}`)
	b := schemas(t, `{d: {values: [2]}}`, `{map: [[["k", true, {ref: "d"}]], {ref: "d"}]}`)
	s, x, y, err := Common(a, b)
	if err != api.OK || len(s.Defs) != 3 || s.Defs[0].Name != "a.d" || s.Defs[2].Name != "b.d" || s.Root.Op != api.SAny || x.Name != "a.d" || y.Props[0].Schema.Name != "b.d" || y.Args[0].Name != "b.d" || s.Defs[0].Schema.Args[0].Name != "a.e" {
		t.Error(s, x, y, err)
	}
	for _, src := range []string{"[]", "[1]", "[2]", "{k: 2}", "{k: 1}", "{k: 2, j: 2}"} {
		v := val(t, src)
		p, _ := validate.Valid(a, v)
		q, _ := validate.Match(s, x, v)
		u, _ := validate.Valid(b, v)
		w, _ := validate.Match(s, y, v)
		if p != q || u != w {
			t.Error(src)
		}
	}
	if a.Root.Name != "d" || b.Root.Args[0].Name != "d" {
		t.Error("changed")
	}
	long := api.Schemas{Defs: []api.Def{{Name: strings.Repeat("x", 63), Schema: api.Schema{Op: api.SAny}}}, Root: api.Schema{Op: api.SAny}}
	for i, test := range []struct {
		a, b api.Schemas
		err  api.Errno
	}{{api.Schemas{}, a, api.ErrArg}, {a, api.Schemas{Root: api.Schema{Op: api.SRef}}, api.ErrNotFound}, {a, long, api.ErrArg}} {
		s, x, y, err := Common(test.a, test.b)
		if err != test.err || s.Defs != nil || x.Op != 0 || y.Op != 0 {
			t.Error(i, err)
		}
	}
}

func randomSchema(r *rand.Rand, depth int) api.Schema {
	if depth == 0 {
		return []api.Schema{{Op: api.SAny}, {Op: api.SNone}, {Op: api.SKinds, Mask: r.Intn(256)}, {Op: api.SText, Min: r.Intn(2), Max: 1 + r.Intn(2)}, {Op: api.SRef, Name: "d"}, {Op: api.SValues, Vals: []api.Value{value.Int(r.Intn(2)), value.Text("a")}}, {Op: api.SNumber, Set: api.NumSet{Parts: []api.Part{{Lo: api.Bound{Set: true, Num: value.Int(r.Intn(2)).Num}, Sort: r.Intn(3)}}}}}[r.Intn(7)]
	}
	switch r.Intn(7) {
	case 0, 1:
		return api.Schema{Op: api.SList, Min: r.Intn(2), Max: r.Intn(2) + 1, Args: []api.Schema{randomSchema(r, depth-1)}}
	case 2, 3:
		x := api.Schema{Op: api.SMap, Args: []api.Schema{randomSchema(r, depth-1)}}
		if r.Intn(2) == 0 {
			x.Props = []api.Prop{{Key: "a", Required: r.Intn(2) == 0, Schema: randomSchema(r, depth-1)}}
		}
		return x
	case 4:
		return api.Schema{Op: api.SNot, Args: []api.Schema{randomSchema(r, depth-1)}}
	}
	return api.Schema{Op: api.SAll + r.Intn(2), Args: []api.Schema{randomSchema(r, depth-1), randomSchema(r, depth-1)}}
}

// samples are values that tell small schemas apart.
func samples(depth int) []api.Value {
	list := []api.Value{value.Null(), value.Bool(true), value.Int(0), value.Int(1), value.Int(-1), value.Num(api.Decimal{Digits: "5", Exp: -1}), value.Text(""), value.Text("a"), value.Text("b"), value.Text("aa")}
	list = append(list, value.List(), api.Value{Kind: api.VMap})
	if depth == 0 {
		return list
	}
	inner := samples(depth - 1)
	for i, x := range inner {
		y := inner[(i*7+3)%len(inner)]
		list = append(list, value.List(x), value.List(x, y), api.Value{Kind: api.VMap, Fields: []api.Field{{Key: "a", Val: x}}}, api.Value{Kind: api.VMap, Fields: []api.Field{{Key: "z", Val: x}}}, api.Value{Kind: api.VMap, Fields: []api.Field{{Key: "a", Val: y}, {Key: "z", Val: x}}})
	}
	return list
}

// P51.1 to P51.3, P51.5, W6
func TestRandom(t *testing.T) {
	r := rand.New(rand.NewSource(1))
	values := samples(2)
	empty := 0
	for range 3000 {
		s := api.Schemas{Defs: []api.Def{{Name: "d", Schema: randomSchema(r, 1)}}}
		a, b := randomSchema(r, r.Intn(3)), randomSchema(r, r.Intn(3))
		if schema.Check(api.Schemas{Defs: s.Defs, Root: a}) != api.OK {
			continue
		}
		v, ok, err := Difference(s, a, b)
		if err != api.OK {
			t.Fatal(err)
		}
		if ok {
			in, e1 := validate.Match(s, a, v)
			out, e2 := validate.Match(s, b, v)
			if !in || out || e1 != api.OK || e2 != api.OK {
				t.Fatal(s, a, b, v, e1)
			}
			continue
		}
		empty++
		for _, v := range values {
			in, _ := validate.Match(s, a, v)
			out, _ := validate.Match(s, b, v)
			if in && !out {
				t.Fatal(s, a, b, v)
			}
		}
	}
	if empty < 300 {
		t.Error(empty)
	}
}
