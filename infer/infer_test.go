package infer

import (
	"math/rand"
	"reflect"
	"testing"

	"datakit/api"
	"datakit/brace"
	"datakit/limit"
	"datakit/schema"
	"datakit/validate"
	"datakit/value"
)

func val(t *testing.T, src string) api.Value {
	t.Helper()
	v, at, err := brace.Read(src, limit.Usual())
	if err != api.OK {
		t.Fatal(src, at, err)
	}
	return v
}

func root(t *testing.T, src string) api.Schema {
	t.Helper()
	s, err := schema.Read(val(t, "{defs: {}, root: "+src+"}"))
	if err != api.OK {
		t.Fatal(src, err)
	}
	return s.Root
}

func show(x api.Schema) string {
	v, _ := schema.Write(api.Schemas{Root: x})
	f, _ := value.Field(v, "root")
	s, _ := brace.Inline(f)
	return s
}

// P52.1
func TestFamily(t *testing.T) {
	for src, want := range map[string]bool{
		`{any: [{kinds: ["null"]}]}`: true, `{any: [{kinds: ["null"]}, {kinds: ["bool"]}, {number: [{from: 1, to: 1, sort: "whole"}]}, {kinds: ["time"]}, {text: [0, 3]}, {kinds: ["binary"]}, {list: [0, 0, false]}, {map: [[], false]}]}`: true, "true": false, "false": false, `{any: [true]}`: false, `{kinds: ["null"]}`: false, `{any: [{kinds: ["null", "bool"]}]}`: false, `{any: [{kinds: ["number"]}]}`: false, `{any: [{kinds: ["bool"]}, {kinds: ["null"]}]}`: false, `{any: [{kinds: ["null"]}, {kinds: ["null"]}]}`: false,
		"{any: [{number: [{from: 1, to: 2}]}]}": true, "{any: [{number: [{from: 1, to: 1}]}]}": false, "{any: [{number: [{from: 0.5, to: 0.5}]}]}": true, `{any: [{number: [{from: 0.5, to: 1, sort: "whole"}]}]}`: false, "{any: [{number: [{from: 2, to: 1}]}]}": false, "{any: [{number: [{above: 1, to: 2}]}]}": false, "{any: [{number: [{from: 1}]}]}": false, "{any: [{number: []}]}": false, "{any: [{number: [{from: 1, to: 2}, {from: 3, to: 4}]}]}": false, `{any: [{number: [{from: 1, to: 2, sort: "fraction"}]}]}`: false, "{any: [{number: [{from: 1e130, to: 2e130}]}]}": false, "{any: [{text: [0, null]}]}": false, "{any: [{list: [0, 0, true]}]}": false, "{any: [{list: [0, 1, false]}]}": false, `{any: [{list: [0, 1, {any: [{kinds: ["null"]}]}]}]}`: true, `{any: [{list: [0, null, {any: [{kinds: ["null"]}]}]}]}`: false, `{any: [{map: [[["a", true, {any: [{kinds: ["null"]}]}], ["b", false, {any: [{kinds: ["null"]}]}]], false]}]}`: true, `{any: [{map: [[["b", true, {any: [{kinds: ["null"]}]}], ["a", false, {any: [{kinds: ["null"]}]}]], false]}]}`: false, `{any: [{map: [[["a", true, true]], false]}]}`: false, `{any: [{map: [[], true]}]}`: false, `{any: [{not: true}]}`: false,
	} {
		if got := Family(root(t, src)); got != want {
			t.Error(src, got)
		}
	}
	for _, x := range []api.Schema{{}, {Op: api.SAnyOf}, {Op: api.SAnyOf, Args: []api.Schema{{Op: api.SRef}}}} {
		if Family(x) {
			t.Error(x)
		}
		if ok, err := Within(x, root(t, `{any: [{kinds: ["null"]}]}`)); ok || err != api.ErrArg {
			t.Error(err)
		}
		if y, err := Join(root(t, `{any: [{kinds: ["null"]}]}`), x); err != api.ErrArg || !reflect.DeepEqual(y, api.Schema{}) {
			t.Error(err)
		}
	}
}

// P52.2, P52.3
func TestInfer(t *testing.T) {
	for _, test := range []struct {
		l    []string
		want string
	}{
		{[]string{"1", "5", `"ab"`}, `{any: [{number: [{from: 1, to: 5, sort: "whole"}]}, {text: [2, 2]}]}`}, {[]string{"1", "5", `"ab"`, "2.5"}, `{any: [{number: [{from: 1, to: 5}]}, {text: [2, 2]}]}`}, {[]string{"{a: 1}", "{a: 2, b: null}"}, `{any: [{map: [[["a", true, {any: [{number: [{from: 1, to: 2, sort: "whole"}]}]}], ["b", false, {any: [{kinds: ["null"]}]}]], false]}]}`}, {[]string{"[]"}, "{any: [{list: [0, 0, false]}]}"}, {[]string{"[]", "[1, true]"}, `{any: [{list: [0, 2, {any: [{kinds: ["bool"]}, {number: [{from: 1, to: 1, sort: "whole"}]}]}]}]}`}, {[]string{`"é"`, `""`}, "{any: [{text: [0, 1]}]}"}, {[]string{"b\"\"", "t\"10:00:00\"", "null"}, `{any: [{kinds: ["null"]}, {kinds: ["time"]}, {kinds: ["binary"]}]}`}, {[]string{"{b: 1, a: 2}"}, `{any: [{map: [[["a", true, {any: [{number: [{from: 2, to: 2, sort: "whole"}]}]}], ["b", true, {any: [{number: [{from: 1, to: 1, sort: "whole"}]}]}]], false]}]}`}, {[]string{"{}", "{a: 1}"}, `{any: [{map: [[["a", false, {any: [{number: [{from: 1, to: 1, sort: "whole"}]}]}]], false]}]}`}, {[]string{"0.5"}, "{any: [{number: [{from: 0.5, to: 0.5}]}]}"},
	} {
		var l []api.Value
		for _, src := range test.l {
			l = append(l, val(t, src))
		}
		x, err := Infer(l...)
		if got := show(x); got != test.want || err != api.OK {
			t.Errorf("%q: %s, %v", test.l, got, err)
		}
		if len(l) == 1 {
			if y, err := Of(l[0]); err != api.OK || !schema.Same(x, y) {
				t.Error(err)
			}
		}
	}
	if x, err := Infer(); err != api.ErrArg || !reflect.DeepEqual(x, api.Schema{}) {
		t.Error(err)
	}
	deep := value.List()
	for range 30 {
		deep = value.List(deep)
	}
	if _, err := Infer(deep, value.Text("\xff")); err != api.ErrText {
		t.Error(err)
	}
	if x, err := Of(deep); err != api.ErrDepth || !reflect.DeepEqual(x, api.Schema{}) {
		t.Error(err)
	}
	wide := api.Value{Kind: api.VMap}
	for i := range 600 {
		wide.Fields = append(wide.Fields, api.Field{Key: string(rune('a'+i%26)) + string(rune('a'+i/26)), Val: value.Int(i)})
	}
	if _, err := Of(wide); err != api.ErrSize {
		t.Error(err)
	}
	half := api.Value{Kind: api.VMap, Fields: wide.Fields[:300]}
	other := api.Value{Kind: api.VMap, Fields: wide.Fields[300:]}
	a, err := Of(half)
	b, err2 := Of(other)
	if _, err3 := Join(a, b); err != api.OK || err2 != api.OK || err3 != api.ErrSize {
		t.Error(err, err2, err3)
	}
}

func random(r *rand.Rand, depth int) api.Value {
	k := r.Intn(9)
	if depth == 0 {
		k = r.Intn(5)
	}
	switch k {
	case 0:
		return value.Null()
	case 1, 2:
		return value.Num(api.Decimal{Digits: string(rune('1' + r.Intn(9))), Exp: -r.Intn(2)})
	case 3:
		return value.Text([]string{"", "a", "éé"}[r.Intn(3)])
	case 4:
		return value.Bool(true)
	case 5, 6:
		v := api.Value{Kind: api.VList}
		for range r.Intn(4) {
			v.List = append(v.List, random(r, depth-1))
		}
		return v
	}
	v := api.Value{Kind: api.VMap}
	for _, i := range r.Perm(3)[:r.Intn(4)] {
		v.Fields = append(v.Fields, api.Field{Key: string(rune('a' + i)), Val: random(r, depth-1)})
	}
	return v
}

// P52.4, P52.5, W7
func TestConsequences(t *testing.T) {
	r := rand.New(rand.NewSource(1))
	var all []api.Schema
	for range 600 {
		var l []api.Value
		for range 1 + r.Intn(4) {
			l = append(l, random(r, 3))
		}
		x, err := Infer(l...)
		if err != api.OK || !Family(x) {
			t.Fatal(err)
		}
		for _, v := range l {
			if ok, err := validate.Valid(api.Schemas{Root: x}, v); !ok || err != api.OK {
				t.Fatal(v)
			}
		}
		r.Shuffle(len(l), func(i, j int) { l[i], l[j] = l[j], l[i] })
		if y, _ := Infer(l...); !schema.Same(x, y) {
			t.Fatal("order")
		}
		permits := func(y api.Schema, l []api.Value) bool {
			for _, v := range l {
				if ok, _ := validate.Valid(api.Schemas{Root: y}, v); !ok {
					return false
				}
			}
			return true
		}
		for range 5 {
			if len(all) == 0 {
				break
			}
			y := all[r.Intn(len(all))]
			in, _ := Within(x, y)
			if permits(y, l) != in {
				t.Fatal(show(x), show(y), in)
			}
			j, err := Join(x, y)
			if err != api.OK {
				t.Fatal(err)
			}
			z := all[r.Intn(len(all))]
			a, _ := Within(x, z)
			b, _ := Within(y, z)
			c, _ := Within(j, z)
			d, _ := Within(x, j)
			e, _ := Within(y, j)
			if c != (a && b) || !d || !e || in && b && !a {
				t.Fatal(show(x), show(y), show(z))
			}
		}
		if ok, err := Within(x, x); !ok || err != api.OK {
			t.Fatal("reflexive")
		}
		all = append(all, x)
		if len(all) > 1 && r.Intn(2) == 0 {
			j, _ := Join(x, all[r.Intn(len(all))])
			all = append(all, j)
		}
	}
}
