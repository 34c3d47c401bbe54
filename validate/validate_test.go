package validate

import (
	"math/rand"
	"slices"
	"testing"

	"datakit/api"
	"datakit/brace"
	"datakit/formats"
	"datakit/limit"
	"datakit/numset"
	"datakit/regex"
	"datakit/schema"
	"datakit/utf"
	"datakit/value"
)

func val(t *testing.T, src string) api.Value {
	t.Helper()
	v, at, err := brace.Read(src, limit.Usual())
	if err != api.OK {
		t.Fatal(src, at, err)
	}
	return v
}

func schemas(t *testing.T, defs, root string) api.Schemas {
	t.Helper()
	s, err := schema.Read(val(t, "{defs: "+defs+", root: "+root+"}"))
	if err != api.OK {
		t.Fatal(root, err)
	}
	return s
}

// P46.1
func TestMatch(t *testing.T) {
	tree := `{tree: {map: [[["left", false, {ref: "tree"}], ["right", false, {ref: "tree"}]], false]}}`
	for _, test := range []struct {
		defs, root string
		good, bad  []string
	}{
		{tree, `{ref: "tree"}`, []string{"{}", "{left: {}, right: {left: {}}}"}, []string{"{left: 1}", "{x: {}}", "1"}}, {"{}", "true", []string{"1", "[]"}, nil}, {"{}", "false", nil, []string{"1", "[]"}}, {"{}", `{kinds: ["null", "string"]}`, []string{"null", `"a"`}, []string{"1", "[]", "false"}}, {"{}", `{number: [{from: 0, sort: "whole"}]}`, []string{"0", "7"}, []string{"-1", "0.5", `"1"`}}, {"{}", "{text: [1, 1]}", []string{`"é"`}, []string{`"ab"`, `""`, "1"}}, {"{}", "{text: [1, null]}", []string{`"abc"`}, []string{`""`}}, {"{}", `{match: "a*"}`, []string{`""`, `"aa"`}, []string{`"b"`, "1"}}, {"{}", `{format: "hex"}`, []string{`"00"`}, []string{`"0"`, "0"}}, {"{}", "{values: [null, 1, t\"10:00:00\"]}", []string{"null", "1.0", "t\"10:00:00\""}, []string{"2", `"1"`, "[]"}},
		{"{}", "{list: [1, 2, {kinds: [\"number\"]}]}", []string{"[1]", "[1, 2]"}, []string{"[]", "[1, 2, 3]", `["a"]`, "{}"}}, {"{}", `{map: [[["a", true, {values: [1]}], ["b", false, false]], {values: [2]}]}`, []string{"{a: 1}", "{c: 2, a: 1}"}, []string{"{}", "{a: 2}", "{a: 1, b: 1}", "{a: 1, c: 1}", "[]"}}, {"{}", `{all: [{text: [1, null]}, {match: "a*"}]}`, []string{`"a"`}, []string{`""`, `"b"`}}, {"{}", `{any: [{values: [1]}, {values: [2]}]}`, []string{"1", "2"}, []string{"3"}}, {"{}", "{not: {number: []}}", []string{"1", "null"}, nil}, {`{a: {not: {ref: "b"}}, b: {values: [1]}}`, `{ref: "a"}`, []string{"2"}, []string{"1"}},
	} {
		s := schemas(t, test.defs, test.root)
		for i, list := range [][]string{test.good, test.bad} {
			for _, src := range list {
				if ok, err := Valid(s, val(t, src)); ok != (i == 0) || err != api.OK {
					t.Error(test.root, src, ok, err)
				}
			}
		}
	}
	bad := api.Schemas{Root: api.Schema{Op: api.SRef, Name: "x"}}
	if ok, err := Valid(bad, api.Value{Kind: 9}); ok || err != api.ErrNotFound {
		t.Error(err)
	}
	if ok, err := Match(bad, api.Schema{Op: api.SAny}, value.Int(1)); !ok || err != api.OK {
		t.Error(err)
	}
	if ok, err := Match(api.Schemas{}, api.Schema{Op: api.SAny}, value.Text("\xff")); ok || err != api.ErrText {
		t.Error(err)
	}
}

// P46.2
func TestWhich(t *testing.T) {
	number, text := api.Schema{Op: api.SKinds, Mask: 1 << api.VNum}, api.Schema{Op: api.SText, Max: -1}
	s := api.Schemas{Defs: []api.Def{{Name: "n", Schema: number}}}
	l := []api.Schema{number, text, {Op: api.SRef, Name: "n"}, {Op: api.SAny}}
	if got, err := Which(s, l, value.Int(1)); err != api.OK || !slices.Equal(got, []int{0, 2, 3}) {
		t.Error(got, err)
	}
	if got, err := Which(s, nil, value.Int(1)); err != api.OK || len(got) != 0 {
		t.Error(got, err)
	}
	if got, err := Which(s, append(l, api.Schema{}, api.Schema{Op: api.SRef}), api.Value{Kind: 9}); err != api.ErrArg || got != nil {
		t.Error(got, err)
	}
	if _, err := Which(s, nil, api.Value{Kind: 9}); err != api.ErrKind {
		t.Error(err)
	}
	if _, err := Which(api.Schemas{Defs: []api.Def{{}}}, nil, value.Int(1)); err != api.OK {
		t.Error(err)
	}
}

// P46.3
func TestDispatch(t *testing.T) {
	for i, test := range []struct {
		x    api.Schema
		mask int
	}{{api.Schema{Op: api.SAny}, 255}, {api.Schema{Op: api.SNone}, 0}, {api.Schema{Op: api.SKinds, Mask: 5}, 5}, {api.Schema{Op: api.SNumber}, 4}, {api.Schema{Op: api.SText}, 16}, {api.Schema{Op: api.SMatch}, 16}, {api.Schema{Op: api.SFormat}, 16}, {api.Schema{Op: api.SValues, Vals: []api.Value{value.Int(1), value.Null()}}, 5}, {api.Schema{Op: api.SList}, 64}, {api.Schema{Op: api.SMap}, 128}, {api.Schema{Op: api.SAll}, 0}, {api.Schema{Op: api.SNot}, 0}, {api.Schema{Op: api.SRef}, 0}, {api.Schema{}, 0}} {
		for kind := -1; kind <= 9; kind++ {
			if Dispatch(test.x, kind) != (kind >= 0 && kind < 8 && test.mask>>kind&1 == 1) {
				t.Error(i, kind)
			}
		}
	}
	if Dispatch(api.Schema{Op: api.SKinds, Mask: -1}, 8) {
		t.Error("no such kind")
	}
}

// permits is the definition, word for word.
func permits(s api.Schemas, x api.Schema, v api.Value) bool {
	switch x.Op {
	case api.SAny:
		return true
	case api.SKinds:
		return x.Mask>>v.Kind&1 == 1
	case api.SNumber:
		return v.Kind == api.VNum && numset.Has(x.Set, v.Num)
	case api.SText:
		n, _ := utf.Len(v.Text)
		return v.Kind == api.VText && n >= x.Min && (x.Max == -1 || n <= x.Max)
	case api.SMatch:
		return v.Kind == api.VText && regex.Match(x.Pattern, v.Text)
	case api.SFormat:
		return v.Kind == api.VText && formats.Check(x.Name, v.Text)
	case api.SValues:
		return slices.ContainsFunc(x.Vals, func(y api.Value) bool { return value.Equal(v, y) })
	case api.SList:
		return v.Kind == api.VList && len(v.List) >= x.Min && (x.Max == -1 || len(v.List) <= x.Max) && !slices.ContainsFunc(v.List, func(y api.Value) bool { return !permits(s, x.Args[0], y) })
	case api.SMap:
		for _, p := range x.Props {
			if _, ok := value.Field(v, p.Key); p.Required && !ok {
				return false
			}
		}
		for _, f := range v.Fields {
			y := x.Args[0]
			for _, p := range x.Props {
				if p.Key == f.Key {
					y = p.Schema
				}
			}
			if !permits(s, y, f.Val) {
				return false
			}
		}
		return v.Kind == api.VMap
	case api.SAll:
		return !slices.ContainsFunc(x.Args, func(y api.Schema) bool { return !permits(s, y, v) })
	case api.SAnyOf:
		return slices.ContainsFunc(x.Args, func(y api.Schema) bool { return permits(s, y, v) })
	case api.SNot:
		return !permits(s, x.Args[0], v)
	case api.SRef:
		y, _ := schema.Lookup(s, x.Name)
		return permits(s, y, v)
	}
	return false
}

func randomSchema(r *rand.Rand, depth int) api.Schema {
	if depth == 0 {
		return []api.Schema{{Op: api.SAny}, {Op: api.SNone}, {Op: api.SKinds, Mask: r.Intn(256)}, {Op: api.SText, Min: r.Intn(2), Max: r.Intn(3) + 1}, {Op: api.SRef, Name: "d"}, {Op: api.SFormat, Name: "hex"}, {Op: api.SNumber, Set: api.NumSet{Parts: []api.Part{{Sort: r.Intn(3)}}}}, {Op: api.SValues, Vals: []api.Value{value.Int(1), value.Text("a")}}, {Op: api.SMatch, Pattern: regex.Literal("a")}}[r.Intn(9)]
	}
	switch r.Intn(6) {
	case 0:
		return api.Schema{Op: api.SList, Min: r.Intn(2), Max: r.Intn(3) + 1, Args: []api.Schema{randomSchema(r, depth-1)}}
	case 1, 2:
		x := api.Schema{Op: api.SMap, Args: []api.Schema{randomSchema(r, depth-1)}}
		for _, i := range r.Perm(3)[:r.Intn(4)] {
			x.Props = append(x.Props, api.Prop{Key: string(rune('a' + i)), Required: r.Intn(2) == 0, Schema: randomSchema(r, depth-1)})
		}
		return x
	case 3:
		return api.Schema{Op: api.SNot, Args: []api.Schema{randomSchema(r, depth-1)}}
	}
	return api.Schema{Op: api.SAll + r.Intn(2), Args: []api.Schema{randomSchema(r, depth-1), randomSchema(r, depth-1)}}
}

func randomValue(r *rand.Rand, depth int) api.Value {
	k := r.Intn(7)
	if depth == 0 {
		k = r.Intn(4)
	}
	switch k {
	case 0:
		return value.Null()
	case 1:
		return value.Int(r.Intn(3))
	case 2, 3:
		return value.Text([]string{"", "a", "00", "abcd"}[r.Intn(4)])
	case 4:
		v := api.Value{Kind: api.VList}
		for range r.Intn(4) {
			v.List = append(v.List, randomValue(r, depth-1))
		}
		return v
	}
	v := api.Value{Kind: api.VMap}
	for _, i := range r.Perm(4)[:r.Intn(4)] {
		v.Fields = append(v.Fields, api.Field{Key: string(rune('a' + i)), Val: randomValue(r, depth-1)})
	}
	return v
}

// P46.4 to P46.6
func TestLogic(t *testing.T) {
	r := rand.New(rand.NewSource(1))
	yes := 0
	for range 3000 {
		s := api.Schemas{Defs: []api.Def{{Name: "d", Schema: api.Schema{Op: api.SList, Max: -1, Args: []api.Schema{randomSchema(r, 1)}}}}}
		x := randomSchema(r, r.Intn(4))
		for range 5 {
			v := randomValue(r, 3)
			want := permits(s, x, v)
			got, err := Match(s, x, v)
			if got != want || err != api.OK {
				t.Fatal(x, v, got, err)
			}
			if got {
				yes++
				if x.Op < api.SAll && !Dispatch(x, v.Kind) {
					t.Fatal(x, v)
				}
			}
			slices.Reverse(v.Fields)
			if again, _ := Match(s, x, v); again != got {
				t.Fatal("the order of fields")
			}
		}
	}
	if yes < 1000 {
		t.Error(yes)
	}
	// Definitions that refer to others twice do not take twice the time.
	var defs []api.Def
	for i := range 60 {
		next := api.Schema{Op: api.SRef, Name: string(rune('A' + i + 1))}
		defs = append(defs, api.Def{Name: string(rune('A' + i)), Schema: api.Schema{Op: api.SAll, Args: []api.Schema{next, next}}})
	}
	defs = append(defs, api.Def{Name: string(rune('A' + 60)), Schema: api.Schema{Op: api.SAny}})
	if ok, err := Valid(api.Schemas{Defs: defs, Root: api.Schema{Op: api.SRef, Name: "A"}}, value.Int(1)); !ok || err != api.OK {
		t.Error(ok, err)
	}
}
