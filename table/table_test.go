package table

import (
	"fmt"
	"math/rand"
	"reflect"
	"slices"
	"strings"
	"testing"

	"datakit/access"
	"datakit/api"
	"datakit/brace"
	"datakit/limit"
	"datakit/path"
	"datakit/tree"
	"datakit/value"
)

func want(t *testing.T, src string) api.Value {
	t.Helper()
	v, at, err := brace.Read(src, limit.Usual())
	if err != api.OK {
		t.Fatalf("%s: %v at %d", src, err, at)
	}
	return v
}

// P26.1 to P26.3
func TestValues(t *testing.T) {
	for src, text := range map[string]string{
		"": "{}", " # x\n\n": "{}", "a.b = 1\n[x.y]\nz = [1, # c\n2]": "{a: {b: 1}, x: {y: {z: [1, 2]}}}", "a = [1,]": "{a: [1]}", "a=1": "{a: 1}", "\ta\t=\t1\t# x\r\n b = true": "{a: 1, b: true}", "\"a b\".'c' = 'd'": `{"a b": {c: "d"}}`, "1.2 = 3": "{\"1\": {\"2\": 3}}", "a = 2024-02-29 10:00:00\nb=10:00:00": `{a: t"2024-02-29T10:00:00", b: t"10:00:00"}`,
		"[[l]]\nk = 1\n[l.t]\n[[l]]": "{l: [{k: 1, t: {}}, {}]}", "a = { b = 1 , 'c d' = [ ] , e={}}": `{a: {b: 1, "c d": [], e: {}}}`, "a = [\n [ # x\n] \r\n,\n]": "{a: [[]]}", "a = {b = [\n1]}": "{a: {b: [1]}}", "[a]# x\n[b]": "{a: {}, b: {}}", "a = -1.50e1": "{a: -15}", "true = false": "{true: false}", "\"\" = 1": `{"": 1}`, "a.\"b.c\".d = 1": `{a: {"b.c": {d: 1}}}`,
	} {
		v, at, err := Read(src, limit.Usual())
		if err != api.OK || at != 0 || !value.Same(v, want(t, text)) {
			t.Errorf("Read(%q) = %v, %v at %d", src, v, err, at)
		}
		n, _, _ := Parse(src, limit.Usual())
		if x, err := Value(n); err != api.OK || !value.Same(x, v) || tree.Print(n) != src || tree.Check(n) != api.OK {
			t.Errorf("Value(%q)", src)
		}
	}
	n, _, err := Parse("# x\na.'b' = [1 ,# c\n2 ] # y\n\n [z]\nk={x=1 , y=2}\n", limit.Usual())
	mark := func(lead, text string) api.Node { return api.Node{Kind: api.NMark, Lead: lead, Text: text} }
	key := func(lead, text string) api.Node { return api.Node{Kind: api.NKey, Lead: lead, Text: text} }
	entry := func(kids ...api.Node) api.Node { return api.Node{Kind: api.NEntry, Kids: kids} }
	scalar := func(lead, text string) api.Node { return api.Node{Kind: api.NScalar, Lead: lead, Text: text} }
	wanted := api.Node{Kind: api.NDocument, Tail: "\n", Kids: []api.Node{
		entry(key("# x\n", "a.'b'"), mark(" ", "="), api.Node{Kind: api.NList, Lead: " ", Text: "[", Tail: " ]", Kids: []api.Node{entry(scalar("", "1"), mark(" ", ",")), entry(scalar("# c\n", "2"))}}),
		{Kind: api.NTable, Lead: " # y\n\n ", Text: "[z]", Kids: []api.Node{entry(key("\n", "k"), mark("", "="), api.Node{Kind: api.NMap, Text: "{", Tail: "}", Kids: []api.Node{entry(key("", "x"), mark("", "="), scalar("", "1"), mark(" ", ",")), entry(key(" ", "y"), mark("", "="), scalar("", "2"))}})}},
	}}
	if err != api.OK || !tree.Same(n, wanted) {
		t.Errorf("%+v", n)
	}
	l, err := Assigns(n)
	if err != api.OK || len(l) != 3 || !slices.Equal(l[0].Keys, []string{"a", "b"}) || !l[1].Table || l[1].Element || !value.Same(l[2].Val, want(t, "{x: 1, y: 2}")) {
		t.Error(l, err)
	}
}

// P26.1, P26.3: errors
func TestErrors(t *testing.T) {
	long := strings.Repeat("k", api.MaxKey)
	for _, test := range []struct {
		src string
		at  int
		err api.Errno
	}{
		{"a = 1\na.b = 2", 6, api.ErrExists}, {"[a", 2, api.ErrTruncated}, {"[ a]", 1, api.ErrSyntax}, {"a =", 3, api.ErrTruncated}, {"a =\n", 3, api.ErrSyntax}, {"a = {b = 1,}", 11, api.ErrSyntax}, {"a..b = 1", 0, api.ErrSyntax}, {" .a = 1", 1, api.ErrSyntax}, {"a. = 1", 0, api.ErrSyntax}, {"a+b = 1", 0, api.ErrSyntax}, {"a\"b\" = 1", 0, api.ErrSyntax}, {"a", 1, api.ErrTruncated}, {"a b = 1", 2, api.ErrSyntax}, {"a # x", 2, api.ErrSyntax}, {"a\n", 1, api.ErrSyntax}, {"= 1", 0, api.ErrSyntax}, {"a = 1 b = 2", 6, api.ErrSyntax}, {"a = # x", 4, api.ErrSyntax}, {"{", 0, api.ErrSyntax}, {"a = ]", 4, api.ErrSyntax}, {"2024-02-29 10:00 = 1", 0, api.ErrSyntax},
		{"[]", 1, api.ErrSyntax}, {"[a ]", 2, api.ErrSyntax}, {"[a] b = 1", 4, api.ErrSyntax}, {"[[a]", 4, api.ErrTruncated}, {"[[a] ]", 4, api.ErrSyntax}, {"[ [a]]", 1, api.ErrSyntax}, {"[a]]", 3, api.ErrSyntax}, {"[a..b", 1, api.ErrSyntax}, {"[a..b @", 1, api.ErrSyntax}, {"[a..b@", 5, api.ErrSyntax}, {"a..b@", 4, api.ErrSyntax}, {"a..b @", 0, api.ErrSyntax}, {"a=1\na@", 5, api.ErrSyntax}, {"a=1\na @", 4, api.ErrExists}, {"a=1\na\"", 6, api.ErrTruncated}, {"a=1\na", 4, api.ErrExists}, {"[a]\n[a", 6, api.ErrTruncated}, {"[a]\n[a@", 6, api.ErrSyntax}, {"[a]\n[a]@", 4, api.ErrExists}, {"[a]\n[[a]@", 8, api.ErrSyntax}, {"[a]\n[[a]]", 4, api.ErrKind}, {"[a]\n[a]", 4, api.ErrExists}, {"a=1\n[a.b]", 4, api.ErrExists},
		{"a = 01", 4, api.ErrSyntax}, {"a = null", 4, api.ErrSyntax}, {"a = 1e999", 4, api.ErrRange}, {"a = 2024-02-30", 4, api.ErrRange}, {"a = 'x", 6, api.ErrTruncated}, {"a = \"\\q\"", 4, api.ErrSyntax}, {"a = \"\x01\"", 4, api.ErrText}, {"a = [1 2]", 7, api.ErrSyntax}, {"a = [,]", 5, api.ErrSyntax}, {"a = [1,,]", 7, api.ErrSyntax}, {"a = [1", 6, api.ErrTruncated}, {"a = [", 5, api.ErrTruncated}, {"a = {\n}", 5, api.ErrSyntax}, {"a = {b = 1 # x\n}", 11, api.ErrSyntax}, {"a = {b.c = 1}", 5, api.ErrSyntax}, {"a = {b = 1 c = 2}", 11, api.ErrSyntax}, {"a = {b}", 6, api.ErrSyntax}, {"a = {b = }", 9, api.ErrSyntax}, {"a = {,}", 5, api.ErrSyntax}, {"a = {b = 1, 'b' = 2}", 12, api.ErrExists}, {"a = {b = 1", 10, api.ErrTruncated}, {"a = {b = [\n1\n]\n}", 14, api.ErrSyntax}, {"a = {" + long + "k = 1}", 5, api.ErrSize}, {"a = {" + long + " = 1}", 0, api.OK},
		{"b." + long + "k = 1", 0, api.ErrSize}, {" [b." + long + "k]", 1, api.ErrSize}, {"b." + long + " = 1", 0, api.OK}, {"a = '" + strings.Repeat("x", api.MaxText+1) + "'", 4, api.ErrSize}, {"a = 1\r", 6, api.ErrTruncated}, {"a = 1\rb", 5, api.ErrSyntax}, {"a = \xff", 4, api.ErrText}, {strings.Repeat("\xff", api.MaxInput+1), 0, api.ErrSize}, {"a = " + strings.Repeat("[", 48), 51, api.ErrDepth}, {strings.Repeat("a.", 400000) + "a = 1", 0, api.ErrDepth}, {"a = [@", 5, api.ErrSyntax}, {"a=[1]\n[[a]]", 6, api.ErrKind}, {"a={}\na.b=1", 5, api.ErrExists},
	} {
		n, at, err := Parse(test.src, limit.Usual())
		if at != test.at || err != test.err || err != api.OK && !reflect.DeepEqual(n, api.Node{}) {
			t.Errorf("Parse(%.30q) = %d, %v, not %d, %v", test.src, at, err, test.at, test.err)
		}
		v, at, err := Read(test.src, limit.Usual())
		if at != test.at || err != test.err || err != api.OK && !reflect.DeepEqual(v, api.Value{}) {
			t.Errorf("Read(%.30q) = %d, %v", test.src, at, err)
		}
	}
	for _, test := range []struct {
		src          string
		depth, nodes int
		at           int
		err          api.Errno
	}{
		{"a.b = 1", 2, 9, 6, api.ErrDepth}, {"a.b = 1", 9, 1, 0, api.ErrSize}, {"a.b = 1", 1, 1, 0, api.ErrDepth}, {"a.b = 1", 9, 2, 6, api.ErrSize}, {"a.b = 1", 3, 3, 0, 0}, {"\n[[a.b]]", 3, 9, 1, api.ErrDepth}, {"\n[[a.b]]", 4, 3, 1, api.ErrSize}, {"\n[[a.b]]", 4, 4, 0, 0}, {"a = [1]", 2, 9, 5, api.ErrDepth}, {"a = [1e999]", 2, 9, 5, api.ErrDepth}, {"a = [01]", 2, 9, 5, api.ErrSyntax}, {"a = [1e999]", 3, 2, 5, api.ErrSize}, {"a = {b=1}", 2, 9, 7, api.ErrDepth}, {"", 1, 1, 0, 0}, {"[a]\n[a]", 2, 2, 4, api.ErrExists}, {"\xff", 0, 1, 0, api.ErrArg},
	} {
		l := limit.Usual()
		l.Depth, l.Nodes = test.depth, test.nodes
		if _, at, err := Parse(test.src, l); at != test.at || err != test.err {
			t.Errorf("Parse(%q) = %d, %v", test.src, at, err)
		}
	}
}

// P26.4, P26.5
func TestWrite(t *testing.T) {
	v := want(t, `{t: {u: "x"}, a: [1, [], {k: true}], l: [{}]}`)
	for width, text := range map[int]string{0: "a = [\n  1,\n  [],\n  {k = true}\n]\n\n[t]\nu = \"x\"\n\n[[l]]\n", 22: "a = [\n  1,\n  [],\n  {k = true}\n]\n\n[t]\nu = \"x\"\n\n[[l]]\n", 23: "a = [1, [], {k = true}]\n\n[t]\nu = \"x\"\n\n[[l]]\n"} {
		if got, err := Write(v, api.Style{Indent: 2, Width: width}); got != text || err != api.OK {
			t.Errorf("%q, %v", got, err)
		}
	}
	v = want(t, `{b: {"x y": {c: [[1, 2], [3]]}}, a: {}}`)
	if got, err := Write(v, api.Style{Indent: 4, Sort: true}); got != "[a]\n\n[b]\n\n[b.\"x y\"]\nc = [\n    [\n        1,\n        2\n    ],\n    [\n        3\n    ]\n]\n" || err != api.OK {
		t.Errorf("%q", got)
	}
	if got, err := Inline(want(t, `[{a: "b", "c d": [1.50, t"10:00:00"]}, {}, []]`)); got != `[{a = "b", "c d" = [1.5, 10:00:00]}, {}, []]` || err != api.OK {
		t.Error(got, err)
	}
	null := want(t, "{a: [null]}")
	for _, test := range []struct {
		v   api.Value
		s   api.Style
		err api.Errno
	}{{api.Value{Kind: 9}, api.Style{}, api.ErrKind}, {null, api.Style{}, api.ErrArg}, {null, api.Style{Indent: 9}, api.ErrArg}, {v, api.Style{Indent: 1, Width: -1}, api.ErrArg}, {null, api.Style{Indent: 1}, api.ErrLoss}, {value.Int(1), api.Style{Indent: 1}, api.ErrLoss}} {
		if got, err := Write(test.v, test.s); got != "" || err != test.err {
			t.Error(got, err)
		}
	}
	if _, err := Inline(null); err != api.ErrLoss {
		t.Error(err)
	}
	if _, err := Inline(value.Text("\xff")); err != api.ErrText {
		t.Error(err)
	}
	big := api.Value{Kind: api.VList}
	for range 16 {
		big.List = append(big.List, value.Text(strings.Repeat("x", api.MaxText-4)))
	}
	if got, err := Inline(big); err != api.OK || len(got) != api.MaxInput {
		t.Error(len(got), err)
	}
	m := api.Value{Kind: api.VMap, Fields: []api.Field{{Key: "a", Val: big}}}
	if got, err := Write(m, api.Style{Indent: 1}); err != api.ErrSize || got != "" {
		t.Error(err)
	}
}

// P26.6, P26.7
func TestLocate(t *testing.T) {
	n, _, _ := Parse("a.b = 1 # x\n[x.y]\nz = [1, # c\n2]\nw = {'q' = {r = 1}} #", limit.Usual())
	for text, want := range map[string][]int{".a.b": {0, 2}, ".x.y.z[1]": {1, 0, 2, 1, 0}, ".x.y.z": {1, 0, 2}, ".x.y.w.q.r": {1, 1, 2, 0, 2, 0, 2}} {
		p, _ := path.Parse(text)
		if got, err := Locate(n, p); err != api.OK || !slices.Equal(got, want) {
			t.Error(text, got, err)
		}
	}
	for text, want := range map[string]api.Errno{".": api.ErrSplit, ".a": api.ErrSplit, ".x.y": api.ErrSplit, ".x.q": api.ErrNotFound, ".[0]": api.ErrKind, ".x.y.z[2]": api.ErrNotFound} {
		p, _ := path.Parse(text)
		if got, err := Locate(n, p); err != want || got != nil {
			t.Error(text, got, err)
		}
	}
	if got := Comments(n); !slices.Equal(got, []string{"# x", "# c", "#"}) {
		t.Errorf("%q", got)
	}
	if _, err := Locate(n, []api.Step{path.At(-1)}); err != api.ErrArg {
		t.Error(err)
	}
	for _, bad := range []api.Node{{}, n.Kids[0], {Kind: 99}, {Kind: api.NDocument, Kids: []api.Node{{Kind: api.NScalar, Text: "a=1"}}}} {
		if _, err := Locate(bad, nil); err != api.ErrArg {
			t.Error(err)
		}
		if l, err := Assigns(bad); err != api.ErrArg || l != nil || Comments(bad) != nil {
			t.Error(err)
		}
		if v, err := Value(bad); err != api.ErrArg || !reflect.DeepEqual(v, api.Value{}) {
			t.Error(err)
		}
	}
}

func random(r *rand.Rand, depth int) api.Value {
	k := r.Intn(8)
	if depth == 0 {
		k = r.Intn(4)
	}
	switch k {
	case 0:
		return value.Bool(r.Intn(2) == 0)
	case 1:
		return value.Int(r.Intn(2000) - 1000)
	case 2:
		return value.Time(api.Time{Kind: api.TimeLocal, Day: r.Intn(9), Nano: r.Intn(api.MaxNano)})
	case 3:
		return value.Text([]string{"", "a", "é\n\"", "x\x00\\"}[r.Intn(4)])
	case 4, 5:
		v := api.Value{Kind: api.VList}
		for range r.Intn(4) {
			v.List = append(v.List, random(r, depth-1))
		}
		return v
	}
	return randomMap(r, depth)
}

func randomMap(r *rand.Rand, depth int) api.Value {
	v := api.Value{Kind: api.VMap}
	for i := range r.Intn(4) {
		v.Fields = append(v.Fields, api.Field{Key: []string{"a", "", "é", "b c", "x.y"}[r.Intn(5)] + fmt.Sprint(i), Val: random(r, depth-1)})
	}
	return v
}

// P26.8, W1, W2
func TestRoundTrip(t *testing.T) {
	r := rand.New(rand.NewSource(1))
	for range 1000 {
		v := randomMap(r, 5)
		inline, err := Inline(v)
		if err != api.OK {
			t.Fatal(err)
		}
		if x, _, err := Read("k = "+inline, limit.Usual()); err != api.OK || !value.Same(x.Fields[0].Val, v) {
			t.Fatal(inline)
		}
		for _, s := range []api.Style{{Indent: 1}, {Indent: 4, Width: 30}, {Indent: 2, Width: 10, Sort: true}} {
			src, err := Write(v, s)
			back, _, err2 := Read(src, limit.Usual())
			if err != api.OK || err2 != api.OK || !value.Equal(back, v) {
				t.Fatal(src)
			}
			n, _, _ := Parse(src, limit.Usual())
			for _, p := range access.Paths(back) {
				indices, err := Locate(n, p)
				if err == api.ErrSplit {
					continue
				}
				node, ok := tree.Get(n, indices...)
				if err != api.OK || !ok || node.Kind < api.NScalar || node.Kind > api.NMap {
					t.Fatal(p, err)
				}
			}
			exact := api.Limits{Depth: value.Depth(v), Nodes: value.Size(v), Bytes: max(len(src), 1)}
			if _, _, err := Parse(src, exact); err != api.OK {
				t.Fatal(err)
			}
			for i, want := range []api.Errno{api.ErrDepth, api.ErrSize, api.ErrSize} {
				less := exact
				*[]*int{&less.Depth, &less.Nodes, &less.Bytes}[i]--
				if _, _, err := Parse(src, less); limit.Valid(less) && err != want {
					t.Fatal(src, i, err)
				}
			}
		}
	}
	pieces := []string{"a", ".", " = ", "1", "\n", "[", "]", "{", "}", ",", "'b'", "# x\n", " ", "[[l]]\n", "[t]\n", "c = 2\n", "\r\n"}
	good := 0
	for range 60000 {
		src := ""
		for range 1 + r.Intn(10) {
			src += pieces[r.Intn(len(pieces))]
		}
		n, at, err := Parse(src, limit.Usual())
		if err == api.OK {
			good++
			if v, err := Value(n); tree.Print(n) != src || tree.Check(n) != api.OK || err != api.OK || value.Check(v) != api.OK {
				t.Fatalf("%q", src)
			}
		} else if at < 0 || at > len(src) || err == api.ErrTruncated && at != len(src) {
			t.Fatalf("%q: %v at %d", src, err, at)
		}
	}
	if good < 1000 {
		t.Error(good)
	}
}
