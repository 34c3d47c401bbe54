package norm

import (
	"math/rand"
	"reflect"
	"testing"

	"datakit/api"
	"datakit/brace"
	"datakit/limit"
	"datakit/schema"
	"datakit/validate"
	"datakit/value"
)

func val(t *testing.T, src string) api.Value {
	t.Helper()
	v, _, err := brace.Read(src, limit.Usual())
	if err != api.OK {
		t.Fatal(src, err)
	}
	return v
}

const defs = `{a: {values: [1]}, b: {ref: "a"}, c: {all: [{any: [{ref: "a"}, {kinds: ["string"]}]}, {any: [{values: [2]}, {values: [3]}]}]}}`

func schemas(t *testing.T, root string) api.Schemas {
	t.Helper()
	s, err := schema.Read(val(t, "{defs: "+defs+", root: "+root+"}"))
	if err != api.OK {
		t.Fatal(root, err)
	}
	return s
}

// P50.1, P50.2, P50.5
func TestExamples(t *testing.T) {
	for _, test := range [][3]string{
		{`{not: {all: [true, {not: {ref: "a"}}]}}`, `{any: [false, {ref: "a"}]}`, `{ref: "a"}`}, {"{not: {not: {values: [1]}}}", "{values: [1]}", "{values: [1]}"}, {"{not: true}", "false", "false"}, {"{not: false}", "true", "true"}, {"{not: {any: [{values: [1]}, {not: {values: [2]}}]}}", "{all: [{not: {values: [1]}}, {values: [2]}]}", "{not: {any: [{values: [1]}, {not: {values: [2]}}]}}"}, {"{not: {list: [0, 1, {not: {not: true}}]}}", "{not: {list: [0, 1, true]}}", "{not: {list: [0, 1, true]}}"}, {`{map: [[["k", true, {not: true}]], {not: {all: [true, true]}}]}`, `{map: [[["k", true, false]], {any: [false, false]}]}`, `{map: [[["k", true, false]], false]}`}, {`{not: {ref: "a"}}`, `{not: {ref: "a"}}`, `{not: {ref: "a"}}`},
		{"{all: [{values: [1]}]}", "{all: [{values: [1]}]}", "{values: [1]}"}, {"{any: [true, {values: [1]}]}", "{any: [true, {values: [1]}]}", "true"}, {"{all: [{all: [{values: [1]}, {values: [2]}]}, true, {values: [3]}]}", "{all: [{all: [{values: [1]}, {values: [2]}]}, true, {values: [3]}]}", "{all: [{values: [1]}, {values: [2]}, {values: [3]}]}"}, {"{any: [false, false]}", "{any: [false, false]}", "false"}, {"{all: [true]}", "{all: [true]}", "true"}, {"{all: [{values: []}, false]}", "{all: [{values: []}, false]}", "false"}, {"{not: {any: [false, {not: {values: [1]}}]}}", "{all: [true, {values: [1]}]}", "{values: [1]}"}, {"{any: [{any: [{values: [1]}, {values: [2]}]}, {all: [false]}]}", "{any: [{any: [{values: [1]}, {values: [2]}]}, {all: [false]}]}", "{any: [{values: [1]}, {values: [2]}]}"},
	} {
		x := schemas(t, test[0]).Root
		before := schemas(t, test[0]).Root
		if got := Push(x); !schema.Same(got, schemas(t, test[1]).Root) {
			t.Error("Push", test[0], got)
		}
		got := Simple(x)
		if !schema.Same(got, schemas(t, test[2]).Root) {
			t.Error("Simple", test[0], got)
		}
		if !schema.Same(x, before) {
			t.Error("changed", test[0])
		}
	}
	s := schemas(t, "true")
	for root, want := range map[string]string{`{ref: "a"}`: "{values: [1]}", `{ref: "b"}`: "{values: [1]}", `{not: {ref: "a"}}`: `{not: {ref: "a"}}`, "true": "true"} {
		if got, err := Unfold(s, schemas(t, root).Root); err != api.OK || !schema.Same(got, schemas(t, want).Root) {
			t.Error(root, got, err)
		}
	}
	if x, err := Unfold(s, api.Schema{Op: api.SRef, Name: "zz"}); err != api.ErrNotFound || !reflect.DeepEqual(x, api.Schema{}) {
		t.Error(err)
	}
}

// P50.3, P50.4
func TestClauses(t *testing.T) {
	s := schemas(t, "true")
	four := "{all: [{any: [{values: [1]}, {values: [2]}]}, {any: [{values: [3]}, {values: [4]}]}]}"
	big := "{all: [" + four + ", " + four + ", " + four + ", " + four + "]}"
	bigger := "{any: [" + big + ", true]}"
	for root, want := range map[string]int{four: 4, "{not: " + four + "}": 2, "true": 1, "false": 1, `{ref: "c"}`: 4, `{not: {ref: "c"}}`: 2, big: 256, bigger: -1, "{not: " + bigger + "}": 8} {
		x := schemas(t, root).Root
		for kind := api.VNull; kind < api.VKinds; kind++ {
			l, err := Clauses(s, x, kind)
			if want < 0 && err != api.ErrLimit || want >= 0 && (err != api.OK || len(l) > want) {
				t.Error(root, kind, len(l), err)
			}
		}
	}
	for _, kind := range []int{-1, 8} {
		if l, err := Clauses(s, api.Schema{}, kind); l != nil || err != api.ErrArg {
			t.Error(err)
		}
	}
	if _, err := Clauses(s, api.Schema{Op: api.SRef, Name: "zz"}, 0); err != api.ErrNotFound {
		t.Error(err)
	}
	var many []api.Def
	for i := range 60 {
		next := api.Schema{Op: api.SRef, Name: string(rune('A' + i + 1))}
		many = append(many, api.Def{Name: string(rune('A' + i)), Schema: api.Schema{Op: api.SAll, Args: []api.Schema{next, next}}})
	}
	many = append(many, api.Def{Name: string(rune('A' + 60)), Schema: api.Schema{Op: api.SKinds, Mask: 1}})
	if l, err := Clauses(api.Schemas{Defs: many}, api.Schema{Op: api.SRef, Name: "A"}, 0); err != api.OK || len(l) != 1 || len(l[0]) != 1 {
		t.Error(err)
	}
	one := api.Schema{Op: api.SValues, Vals: []api.Value{value.Int(1)}}
	for i, test := range []struct {
		l    []api.Literal
		v    api.Value
		want bool
		err  api.Errno
	}{{nil, value.Int(1), true, 0}, {[]api.Literal{{Schema: one}}, value.Int(1), true, 0}, {[]api.Literal{{Schema: one}, {Neg: true, Schema: one}}, value.Int(1), false, 0}, {[]api.Literal{{Neg: true, Schema: one}}, value.Int(2), true, 0}, {[]api.Literal{{Schema: api.Schema{Op: api.SNot}}}, api.Value{Kind: 9}, false, api.ErrArg}, {[]api.Literal{{Schema: api.Schema{Op: api.SRef, Name: "a"}}}, value.Int(1), false, api.ErrArg}, {[]api.Literal{{Schema: api.Schema{Op: api.SFormat}}, {}}, value.Int(1), false, api.ErrNotFound}, {[]api.Literal{{Schema: one}}, api.Value{Kind: 9}, false, api.ErrKind}, {nil, api.Value{Kind: 9}, false, api.ErrKind}, {[]api.Literal{{Schema: api.Schema{Op: api.SList, Max: -1, Args: []api.Schema{{Op: api.SRef, Name: "a"}}}}}, value.List(value.Int(1)), true, 0}} {
		if ok, err := Holds(s, test.l, test.v); ok != test.want || err != test.err {
			t.Error(i, ok, err)
		}
	}
}

func randomSchema(r *rand.Rand, depth int) api.Schema {
	if depth == 0 {
		return []api.Schema{{Op: api.SAny}, {Op: api.SNone}, {Op: api.SKinds, Mask: r.Intn(256)}, {Op: api.SText, Min: r.Intn(2), Max: r.Intn(3) + 1}, {Op: api.SRef, Name: "d"}, {Op: api.SValues, Vals: []api.Value{value.Int(1), value.Text("a")}}}[r.Intn(6)]
	}
	switch r.Intn(7) {
	case 0:
		return api.Schema{Op: api.SList, Min: r.Intn(2), Max: r.Intn(3) + 1, Args: []api.Schema{randomSchema(r, depth-1)}}
	case 1:
		return api.Schema{Op: api.SMap, Props: []api.Prop{{Key: "a", Required: r.Intn(2) == 0, Schema: randomSchema(r, depth-1)}}, Args: []api.Schema{randomSchema(r, depth-1)}}
	case 2, 3:
		return api.Schema{Op: api.SNot, Args: []api.Schema{randomSchema(r, depth-1)}}
	}
	return api.Schema{Op: api.SAll + r.Intn(2), Args: []api.Schema{randomSchema(r, depth-1), randomSchema(r, depth-1)}}
}

func randomValue(r *rand.Rand, depth int) api.Value {
	k := r.Intn(6)
	if depth == 0 {
		k = r.Intn(4)
	}
	switch k {
	case 0:
		return value.Null()
	case 1:
		return value.Int(r.Intn(3))
	case 2, 3:
		return value.Text([]string{"", "a", "00", "abcd"}[r.Intn(4)])
	case 4:
		v := api.Value{Kind: api.VList}
		for range r.Intn(4) {
			v.List = append(v.List, randomValue(r, depth-1))
		}
		return v
	}
	v := api.Value{Kind: api.VMap}
	for _, i := range r.Perm(2)[:r.Intn(3)] {
		v.Fields = append(v.Fields, api.Field{Key: string(rune('a' + i)), Val: randomValue(r, depth-1)})
	}
	return v
}

// P50.6, P50.7
func TestSame(t *testing.T) {
	r := rand.New(rand.NewSource(1))
	for range 2000 {
		s := api.Schemas{Defs: []api.Def{{Name: "d", Schema: randomSchema(r, 0)}}}
		if s.Defs[0].Schema.Op == api.SRef {
			continue
		}
		x := randomSchema(r, r.Intn(4))
		pushed, simpler := Push(x), Simple(x)
		unfolded, _ := Unfold(s, x)
		if !schema.Same(Push(pushed), pushed) || !schema.Same(Simple(simpler), simpler) || schema.Size(simpler) > schema.Size(x) {
			t.Fatal(x)
		}
		for range 5 {
			v := randomValue(r, 3)
			want, err := validate.Match(s, x, v)
			if err != api.OK {
				t.Fatal(err)
			}
			for _, y := range []api.Schema{pushed, simpler, unfolded} {
				if got, err := validate.Match(s, y, v); got != want || err != api.OK {
					t.Fatal(x, y, v)
				}
			}
			l, err := Clauses(s, x, v.Kind)
			if err == api.ErrLimit {
				continue
			}
			any := false
			for _, c := range l {
				ok, err := Holds(s, c, v)
				if err != api.OK {
					t.Fatal(err)
				}
				any = any || ok
			}
			if any != want {
				t.Fatal(x, v, l)
			}
		}
	}
}
