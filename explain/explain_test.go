package explain

import (
	"math/rand"
	"reflect"
	"slices"
	"testing"

	"datakit/access"
	"datakit/api"
	"datakit/brace"
	"datakit/limit"
	"datakit/path"
	"datakit/schema"
	"datakit/validate"
	"datakit/value"
)

func val(t *testing.T, src string) api.Value {
	t.Helper()
	v, at, err := brace.Read(src, limit.Usual())
	if err != api.OK {
		t.Fatal(src, at, err)
	}
	return v
}

func schemas(t *testing.T, defs, root string) api.Schemas {
	t.Helper()
	s, err := schema.Read(val(t, "{defs: "+defs+", root: "+root+"}"))
	if err != api.OK {
		t.Fatal(root, err)
	}
	return s
}

// P47.1, P47.2
func TestExplain(t *testing.T) {
	for _, test := range [][3]string{
		{"{list: [2, null, {number: [{}]}]}", `["x"]`, ". list\n.[0] number\n"}, {`{any: [{map: [[["a", true, true], ["b", true, true]], true]}, {kinds: ["string"]}]}`, "{}", ". kinds\n"}, {`{map: [[["x y", true, true]], true]}`, "{}", ". map .\"x y\"\n"}, {"{list: [0, 1, true]}", "[1, 2]", ". list\n"}, {"{list: [0, 1, true]}", "1", ". list\n"}, {`{map: [[["b", true, {values: [1]}], ["a", true, true], ["c", true, true]], {values: [2]}]}`, "{d: 1, b: 2}", ". map .a\n. map .c\n.b values\n.d values\n"}, {`{map: [[], true]}`, "1", ". map\n"}, {"{all: [false, {not: true}, {values: []}]}", "1", ". none\n. not\n. values\n"}, {`{any: [{all: [false, false]}, {text: [1, 1]}, {match: "a"}]}`, `"b"`, ""}, {`{any: [{all: [false, false]}, {match: "a"}, {text: [2, 2]}]}`, `"b"`, ". match\n"}, {`{ref: "d"}`, "[1, []]", ".[0] list\n"}, {"true", "1", ""}, {"{format: \"hex\"}", "1", ". format\n"}, {"{any: [{values: [2]}, {values: [1]}]}", "1", ""},
	} {
		s := schemas(t, `{d: {list: [0, null, {ref: "d"}]}}`, test[0])
		l, err := Explain(s, val(t, test[1]))
		if got := Text(l); got != test[2] || err != api.OK {
			t.Errorf("%s on %s: %q, %v", test[0], test[1], got, err)
		}
		if n, err := Cost(s, val(t, test[1])); n != len(l) || err != api.OK {
			t.Error(n, err)
		}
	}
	bad := api.Schemas{Root: api.Schema{Op: api.SRef, Name: "x"}}
	if l, err := Explain(bad, api.Value{Kind: 9}); l != nil || err != api.ErrNotFound {
		t.Error(err)
	}
	if n, err := Cost(api.Schemas{Root: api.Schema{Op: api.SAny}}, api.Value{Kind: 9}); n != 0 || err != api.ErrKind {
		t.Error(err)
	}
	long := api.Value{Kind: api.VList, List: make([]api.Value, api.MaxChanges+1)}
	s := schemas(t, "{}", "{list: [0, null, false]}")
	if l, err := Explain(s, long); l != nil || err != api.ErrLimit {
		t.Error(err)
	}
	if _, err := Cost(s, long); err != api.ErrLimit {
		t.Error(err)
	}
	long.List = long.List[1:]
	if l, err := Explain(s, long); len(l) != api.MaxChanges || err != api.OK {
		t.Error(err)
	}
	var defs []api.Def
	for i := range 60 {
		next := api.Schema{Op: api.SRef, Name: string(rune('A' + i + 1))}
		defs = append(defs, api.Def{Name: string(rune('A' + i)), Schema: api.Schema{Op: api.SAll, Args: []api.Schema{next, next}}})
	}
	defs = append(defs, api.Def{Name: string(rune('A' + 60)), Schema: api.Schema{Op: api.SNone}})
	if _, err := Cost(api.Schemas{Defs: defs, Root: api.Schema{Op: api.SRef, Name: "A"}}, value.Int(1)); err != api.ErrLimit {
		t.Error(err)
	}
	var all []api.Failure
	for op := -1; op < 17; op++ {
		all = append(all, api.Failure{Op: op})
	}
	if got := Text(all); got != ". ?\n. ?\n. any\n. none\n. kinds\n. number\n. text\n. match\n. format\n. values\n. list\n. map\n. all\n. anyof\n. not\n. ref\n. ?\n. ?\n" {
		t.Errorf("%q", got)
	}
}

// P47.3
func TestParts(t *testing.T) {
	a, b := []api.Step{path.Key("a")}, []api.Step{path.At(1)}
	got := Parts([]api.Failure{{Path: a}, {Path: nil}, {Path: b, Key: "x"}, {Path: a, Op: 3}})
	want := [][]api.Step{nil, a, b}
	slices.SortFunc(want, path.Cmp)
	if !slices.EqualFunc(got, want, path.Equal) || Parts(nil) != nil {
		t.Error(got)
	}
}

// least is the least cost over all choices of alternatives.
func least(s api.Schemas, x api.Schema, v api.Value) int {
	n := 0
	switch {
	case x.Op == api.SList && v.Kind == api.VList:
		if len(v.List) < x.Min || x.Max != -1 && len(v.List) > x.Max {
			n++
		}
		for _, y := range v.List {
			n += least(s, x.Args[0], y)
		}
	case x.Op == api.SMap && v.Kind == api.VMap:
		for _, p := range x.Props {
			if _, ok := value.Field(v, p.Key); p.Required && !ok {
				n++
			}
		}
		for _, f := range v.Fields {
			y := x.Args[0]
			for _, p := range x.Props {
				if p.Key == f.Key {
					y = p.Schema
				}
			}
			n += least(s, y, f.Val)
		}
	case x.Op == api.SAll:
		for _, y := range x.Args {
			n += least(s, y, v)
		}
	case x.Op == api.SAnyOf:
		n = 1 << 30
		for _, y := range x.Args {
			n = min(n, least(s, y, v))
		}
	case x.Op == api.SRef:
		y, _ := schema.Lookup(s, x.Name)
		n = least(s, y, v)
	default:
		if ok, _ := validate.Match(s, x, v); !ok {
			n = 1
		}
	}
	return n
}

func randomSchema(r *rand.Rand, depth int) api.Schema {
	if depth == 0 {
		return []api.Schema{{Op: api.SAny}, {Op: api.SNone}, {Op: api.SKinds, Mask: r.Intn(256)}, {Op: api.SRef, Name: "d"}, {Op: api.SValues, Vals: []api.Value{value.Int(1), value.Text("a")}}}[r.Intn(5)]
	}
	switch r.Intn(6) {
	case 0:
		return api.Schema{Op: api.SList, Min: r.Intn(2), Max: r.Intn(3) + 1, Args: []api.Schema{randomSchema(r, depth-1)}}
	case 1, 2:
		x := api.Schema{Op: api.SMap, Args: []api.Schema{randomSchema(r, depth-1)}}
		for _, i := range r.Perm(3)[:r.Intn(4)] {
			x.Props = append(x.Props, api.Prop{Key: string(rune('a' + i)), Required: r.Intn(2) == 0, Schema: randomSchema(r, depth-1)})
		}
		return x
	case 3:
		return api.Schema{Op: api.SNot, Args: []api.Schema{randomSchema(r, depth-1)}}
	}
	return api.Schema{Op: api.SAll + r.Intn(2), Args: []api.Schema{randomSchema(r, depth-1), randomSchema(r, depth-1)}}
}

func randomValue(r *rand.Rand, depth int) api.Value {
	k := r.Intn(6)
	if depth == 0 {
		k = r.Intn(3)
	}
	switch k {
	case 0:
		return value.Null()
	case 1:
		return value.Int(r.Intn(3))
	case 2:
		return value.Text("a")
	case 3:
		v := api.Value{Kind: api.VList}
		for range r.Intn(4) {
			v.List = append(v.List, randomValue(r, depth-1))
		}
		return v
	}
	v := api.Value{Kind: api.VMap}
	for _, i := range r.Perm(4)[:r.Intn(4)] {
		v.Fields = append(v.Fields, api.Field{Key: string(rune('a' + i)), Val: randomValue(r, depth-1)})
	}
	return v
}

// P47.4 to P47.6, W6
func TestConsequences(t *testing.T) {
	r := rand.New(rand.NewSource(1))
	failed := 0
	for range 4000 {
		s := api.Schemas{Defs: []api.Def{{Name: "d", Schema: api.Schema{Op: api.SList, Max: -1, Args: []api.Schema{randomSchema(r, 1)}}}}}
		s.Root = randomSchema(r, r.Intn(4))
		v := randomValue(r, 3)
		l, err := Explain(s, v)
		ok, _ := validate.Valid(s, v)
		if err != api.OK || ok != (len(l) == 0) || len(l) != least(s, s.Root, v) {
			t.Fatal(s, v, l, err)
		}
		for _, f := range l {
			failed++
			x, err := access.Get(v, f.Path)
			if _, has := value.Field(x, f.Key); err != api.OK || f.Key != "" && (has || x.Kind != api.VMap) {
				t.Fatal(f)
			}
		}
		if len(l) > 1 {
			l[0].Path = append(l[0].Path[:0], path.At(9))
			again, _ := Explain(s, v)
			if !reflect.DeepEqual(again[1:], l[1:]) {
				t.Fatal("shared memory")
			}
		}
	}
	if failed < 1000 {
		t.Error(failed)
	}
}
