package brace

import (
	"fmt"
	"math/rand"
	"reflect"
	"slices"
	"strings"
	"testing"

	"datakit/access"
	"datakit/api"
	"datakit/limit"
	"datakit/path"
	"datakit/tree"
	"datakit/value"
)

func limits(depth, nodes int) api.Limits {
	l := limit.Usual()
	l.Depth, l.Nodes = depth, nodes
	return l
}

func read(t *testing.T, src string) api.Value {
	t.Helper()
	v, at, err := Read(src, limit.Usual())
	if err != api.OK || at != 0 {
		t.Fatalf("Read(%q): %v at %d", src, err, at)
	}
	return v
}

// P20.1, P20.3
func TestParseTree(t *testing.T) {
	n, at, err := Parse("[1, /*a*/ 2,]", limit.Usual())
	mark := func(lead, text string) api.Node { return api.Node{Kind: api.NMark, Lead: lead, Text: text} }
	want := api.Node{Kind: api.NDocument, Kids: []api.Node{{Kind: api.NList, Text: "[", Tail: "]", Kids: []api.Node{
		{Kind: api.NEntry, Kids: []api.Node{{Kind: api.NScalar, Text: "1"}, mark("", ",")}},
		{Kind: api.NEntry, Kids: []api.Node{{Kind: api.NScalar, Lead: " /*a*/ ", Text: "2"}, mark("", ",")}},
	}}}}
	if err != api.OK || at != 0 || !tree.Same(n, want) {
		t.Error(n)
	}
	n, _, _ = Parse("// x\n{ a : // y\n 1 , \"b\":[] } \n", limit.Usual())
	want = api.Node{Kind: api.NDocument, Tail: " \n", Kids: []api.Node{{Kind: api.NMap, Lead: "// x\n", Text: "{", Tail: " }", Kids: []api.Node{
		{Kind: api.NEntry, Kids: []api.Node{{Kind: api.NKey, Lead: " ", Text: "a"}, mark(" ", ":"), {Kind: api.NScalar, Lead: " // y\n ", Text: "1"}, mark(" ", ",")}},
		{Kind: api.NEntry, Kids: []api.Node{{Kind: api.NKey, Lead: " ", Text: "\"b\""}, mark("", ":"), {Kind: api.NList, Text: "[", Tail: "]"}}},
	}}}}
	if !tree.Same(n, want) {
		t.Error(n)
	}
}

// P20.1, P20.3: errors
func TestErrors(t *testing.T) {
	long := strings.Repeat("x", api.MaxKey)
	tests := []struct {
		src string
		at  int
		err api.Errno
	}{
		{"", 0, api.ErrTruncated}, {" // x", 5, api.ErrTruncated}, {"{a: 1, \"a\": 2}", 7, api.ErrExists}, {"[1 2]", 3, api.ErrSyntax}, {"[1,", 3, api.ErrTruncated}, {"[,]", 1, api.ErrSyntax}, {"1e999", 0, api.ErrRange},
		{"[1,,2]", 3, api.ErrSyntax}, {"[1]]", 3, api.ErrSyntax}, {"1 2", 2, api.ErrSyntax}, {"nul", 0, api.ErrSyntax}, {"a", 0, api.ErrSyntax}, {"]", 0, api.ErrSyntax}, {":", 0, api.ErrSyntax}, {"[}", 1, api.ErrSyntax}, {"{]", 1, api.ErrSyntax},
		{"{a 1}", 3, api.ErrSyntax}, {"{a:}", 3, api.ErrSyntax}, {"{a:1 b:2}", 5, api.ErrSyntax}, {"{1:2}", 1, api.ErrSyntax}, {"{t\"x\":2}", 1, api.ErrSyntax}, {"{b\"\":2}", 1, api.ErrSyntax}, {"{,}", 1, api.ErrSyntax}, {"{a:1,,}", 5, api.ErrSyntax},
		{"{", 1, api.ErrTruncated}, {"{a", 2, api.ErrTruncated}, {"{a:", 3, api.ErrTruncated}, {"{a:1", 4, api.ErrTruncated}, {"[", 1, api.ErrTruncated}, {"[1", 2, api.ErrTruncated}, {"[1 ", 3, api.ErrTruncated}, {"{a: 1, ", 7, api.ErrTruncated},
		{"[1, 01]", 4, api.ErrSyntax}, {"[ \"\\x\"]", 2, api.ErrSyntax}, {"[ \"\x01\"]", 2, api.ErrText}, {"[\xff", 1, api.ErrText}, {"[1 \xff", 3, api.ErrText}, {"[ \"abc", 6, api.ErrTruncated}, {"[1 /", 4, api.ErrTruncated}, {"[1 2 \"", 3, api.ErrSyntax}, {"[1 'a']", 3, api.ErrSyntax},
		{"t\"x\"", 0, api.ErrSyntax}, {"[t\"2024-02-30\"]", 1, api.ErrRange}, {"b\"A\"", 0, api.ErrSyntax}, {"b\"AA=\"", 0, api.ErrSyntax}, {"b\"AB==\"", 0, api.ErrSyntax}, {"[-1e-999]", 1, api.ErrRange}, {"{a:1e999, a:1}", 3, api.ErrRange},
		{"{" + long + "x:1}", 1, api.ErrSize}, {"{" + long + ":1}", 0, api.OK}, {"{a:1, \"\\u0061\":1}", 6, api.ErrExists}, {"{a:{a:1},b:{a:1}}", 0, api.OK}, {"{null:1,true:2,false:3}", 0, api.OK},
		{"\"" + strings.Repeat("x", api.MaxText) + "\"", 0, api.OK}, {"\"" + strings.Repeat("x", api.MaxText+1) + "\"", 0, api.ErrSize}, {"b\"" + strings.Repeat("AAAA", api.MaxText/3+1) + "\"", 0, api.ErrSize}, {"b\"" + strings.Repeat("AAAA", api.MaxText/3) + "AA==\"", 0, api.OK},
		{strings.Repeat("[", 48) + strings.Repeat("]", 48), 0, api.OK}, {strings.Repeat("[", 49), 48, api.ErrDepth}, {strings.Repeat("[", 48), 48, api.ErrTruncated}, {strings.Repeat(" ", api.MaxInput) + "1", 0, api.ErrSize},
		{"[1,\r2]", 3, api.ErrSyntax}, {"\ufeff1", 0, api.ErrSyntax},
	}
	for _, test := range tests {
		n, at, err := Parse(test.src, limit.Usual())
		if at != test.at || err != test.err || err != api.OK && !reflect.DeepEqual(n, api.Node{}) {
			t.Errorf("Parse(%.30q) = %d, %v", test.src, at, err)
		}
		v, at, err := Read(test.src, limit.Usual())
		if at != test.at || err != test.err || err != api.OK && !reflect.DeepEqual(v, api.Value{}) {
			t.Errorf("Read(%.30q) = %d, %v", test.src, at, err)
		}
	}
	for _, test := range []struct {
		src          string
		depth, nodes int
		at           int
		err          api.Errno
	}{
		{"[1]", 1, 9, 1, api.ErrDepth}, {"[1]", 9, 1, 1, api.ErrSize}, {"[1]", 1, 1, 1, api.ErrDepth}, {"[]", 1, 1, 0, 0}, {"{a: {}}", 1, 2, 4, api.ErrDepth}, {"{a: {}}", 2, 2, 0, 0}, {"[1, 1e999]", 2, 2, 4, api.ErrSize}, {"[[], 1]", 2, 2, 5, api.ErrSize}, {"[x]", 1, 1, 1, api.ErrSyntax}, {"[01]", 1, 1, 1, api.ErrSyntax},
		{"1", 0, 1, 0, api.ErrArg}, {"\xff", 1, 0, 0, api.ErrArg},
	} {
		if _, at, err := Parse(test.src, limits(test.depth, test.nodes)); at != test.at || err != test.err {
			t.Errorf("Parse(%q) = %d, %v", test.src, at, err)
		}
	}
	l := limit.Usual()
	l.Bytes = 2
	if _, at, err := Parse("\xff\xff\xff", l); at != 0 || err != api.ErrSize {
		t.Error(at, err)
	}
	if _, at, err := Parse("1\xff", l); at != 1 || err != api.ErrText {
		t.Error(at, err)
	}
}

// P20.2
func TestValue(t *testing.T) {
	src := "{b: [null, true, false, 1.50, -0], a: t\"2024-02-29\", \"é\\n\": \"\\u0041\", c: b\"AQI=\", d: {}, e: [],}"
	n, _, _ := Parse(src, limit.Usual())
	v, err := Value(n)
	num := api.Decimal{Digits: "15", Exp: -1}
	want := api.Value{Kind: api.VMap, Fields: []api.Field{
		{Key: "b", Val: value.List(value.Null(), value.Bool(true), value.Bool(false), value.Num(num), value.Int(0))},
		{Key: "a", Val: value.Time(api.Time{Kind: api.TimeDate, Day: 738944})}, {Key: "é\n", Val: value.Text("A")}, {Key: "c", Val: value.Bytes([]byte{1, 2})},
		{Key: "d", Val: api.Value{Kind: api.VMap}}, {Key: "e", Val: value.List()}}}
	if err != api.OK || !value.Same(v, want) || value.Check(v) != api.OK {
		t.Error(v, err)
	}
	other, _, _ := Parse("[1]", limit.Usual())
	moved := other
	moved.Kids = []api.Node{{Kind: api.NScalar, Text: "[1]"}}
	for _, bad := range []api.Node{{}, {Kind: api.NDocument}, {Kind: api.NDocument, Text: "1"}, {Kind: api.NScalar, Text: "1"}, moved, other.Kids[0], {Kind: 99}, {Kind: api.NDocument, Kids: []api.Node{{Kind: api.NScalar, Text: "1", Lead: " "}}, Lead: " "}} {
		if v, err := Value(bad); err != api.ErrArg || !reflect.DeepEqual(v, api.Value{}) {
			t.Error(err)
		}
		if _, err := Locate(bad, nil); err != api.ErrArg {
			t.Error(err)
		}
		if Comments(bad) != nil {
			t.Error("Comments")
		}
	}
}

// P20.4, P20.5
func TestWrite(t *testing.T) {
	v := read(t, "{a: [1, 2], b: []}")
	for width, want := range map[int]string{
		0:  "{\n  a: [\n    1,\n    2\n  ],\n  b: []\n}\n",
		20: "{a: [1, 2], b: []}\n", 18: "{a: [1, 2], b: []}\n",
		17: "{\n  a: [1, 2],\n  b: []\n}\n", 12: "{\n  a: [1, 2],\n  b: []\n}\n", 11: "{\n  a: [1, 2],\n  b: []\n}\n",
		10: "{\n  a: [\n    1,\n    2\n  ],\n  b: []\n}\n",
	} {
		if got, err := Write(v, api.Style{Indent: 2, Width: width}); got != want || err != api.OK {
			t.Errorf("width %d: %q", width, got)
		}
	}
	v = read(t, "[{\"é é\": \"éé\"}, {b: 1, a: {d: null, c: 2}}]")
	if got, _ := Write(v, api.Style{Indent: 3, Width: 16, Sort: true}); got != "[\n   {\"é é\": \"éé\"},\n   {\n      a: {\n         c: 2,\n         d: null\n      },\n      b: 1\n   }\n]\n" {
		t.Errorf("%q", got)
	}
	if got, _ := Write(v, api.Style{Indent: 3, Width: 15, Dialect: api.Dialect{Sep: 7}}); !strings.HasPrefix(got, "[\n   {\n      \"é é\": \"éé\"\n   },") {
		t.Errorf("%q", got)
	}
	for src, want := range map[string]string{"null": "null", "true": "true", "1.50e3": "1500", "1e30": "1e30", "t\"10:00:00.500\"": "t\"10:00:00.5\"", "b\"AQI=\"": "b\"AQI=\"", "\"\\u0007\"": "\"\\u0007\"", "[ ]": "[]", "{ }": "{}", "{\"a b\":1,null:2}": "{\"a b\": 1, null: 2}", "[1,[2]]": "[1, [2]]"} {
		if got, err := Inline(read(t, src)); got != want || err != api.OK {
			t.Errorf("Inline(%s) = %s", src, got)
		}
	}
	for _, s := range []api.Style{{}, {Indent: 9}, {Indent: -1}, {Indent: 2, Width: -1}} {
		if got, err := Write(v, s); got != "" || err != api.ErrArg {
			t.Error(got, err)
		}
	}
	bad := api.Value{Kind: 9}
	if _, err := Write(bad, api.Style{}); err != api.ErrKind {
		t.Error(err)
	}
	if _, err := Inline(value.Text("\xff")); err != api.ErrText {
		t.Error(err)
	}
	text := value.Text(strings.Repeat("x", api.MaxText-4))
	list := api.Value{Kind: api.VList}
	for range 16 {
		list.List = append(list.List, text)
	}
	if got, err := Inline(list); err != api.OK || len(got) != api.MaxInput {
		t.Error(len(got), err)
	}
	if got, err := Write(list, api.Style{Indent: 1, Width: 1 << 40}); err != api.ErrSize || got != "" {
		t.Error(len(got), err)
	}
	list.List[3].Text += "x"
	if got, err := Inline(list); err != api.ErrSize || got != "" {
		t.Error(len(got), err)
	}
}

// P20.6
func TestLocate(t *testing.T) {
	n, _, _ := Parse("[1, /*a*/ 2,]", limit.Usual())
	if got, err := Locate(n, []api.Step{path.At(1)}); err != api.OK || !slices.Equal(got, []int{0, 1, 0}) {
		t.Error(got, err)
	}
	n, _, _ = Parse("{a: [0, {\"b\": 1}]}", limit.Usual())
	for text, want := range map[string][]int{"": {0}, ".a": {0, 0, 2}, ".a[1].b": {0, 0, 2, 1, 0, 0, 2}} {
		p, _ := path.Parse(text)
		if text == "" {
			p = nil
		}
		if got, err := Locate(n, p); err != api.OK || !slices.Equal(got, want) {
			t.Error(text, got, err)
		}
	}
	for _, test := range []struct {
		p   []api.Step
		err api.Errno
	}{{[]api.Step{path.At(0)}, api.ErrKind}, {[]api.Step{path.Key("b")}, api.ErrNotFound}, {[]api.Step{path.Key("a"), path.Key("b")}, api.ErrKind}, {[]api.Step{path.Key("a"), path.At(2)}, api.ErrNotFound}, {[]api.Step{path.Key("a"), path.At(0), path.At(0)}, api.ErrKind}, {[]api.Step{path.At(-1)}, api.ErrArg}, {make([]api.Step, 49), api.ErrArg}} {
		if got, err := Locate(n, test.p); err != test.err || got != nil {
			t.Error(test, err)
		}
	}
}

// P20.7
func TestComments(t *testing.T) {
	n, _, _ := Parse("// a\n[1 /* b */, {/**/x: \"// no\"}]//c", limit.Usual())
	if got := Comments(n); !slices.Equal(got, []string{"// a", "/* b */", "/**/", "//c"}) {
		t.Errorf("%q", got)
	}
}

func randomValue(r *rand.Rand, depth int) api.Value {
	k := r.Intn(10)
	if depth == 0 {
		k = r.Intn(6)
	}
	switch k {
	case 0:
		return value.Null()
	case 1:
		return value.Bool(r.Intn(2) == 0)
	case 2:
		return value.Num(api.Decimal{Neg: r.Intn(2) == 0, Digits: "1" + strings.Repeat("0", r.Intn(3)) + "7", Exp: r.Intn(60) - 30})
	case 3:
		return value.Time(api.Time{Kind: api.TimeInstant, Day: 1 + r.Intn(9), Nano: r.Intn(api.MaxNano), Offset: r.Intn(60)})
	case 4:
		return value.Text([]string{"", "a", "é\n\"", "x\x00\\"}[r.Intn(4)])
	case 5:
		return value.Bytes([]byte("abc")[:r.Intn(4)])
	}
	v := api.Value{Kind: api.VList + r.Intn(2)}
	for i := range r.Intn(4) {
		x := randomValue(r, depth-1)
		if v.Kind == api.VList {
			v.List = append(v.List, x)
		} else {
			v.Fields = append(v.Fields, api.Field{Key: []string{"a", "", "é", "null", "b c"}[(i+r.Intn(2)*3)%5] + fmt.Sprint(i), Val: x})
		}
	}
	return v
}

// P20.8, W1, W2, W12
func TestRoundTrip(t *testing.T) {
	r := rand.New(rand.NewSource(1))
	trivia := []string{"", " ", "\n", "/* x */", "// y\n", "\r\n\t"}
	for range 1500 {
		v := randomValue(r, 4)
		inline, err := Inline(v)
		if err != api.OK || !value.Same(read(t, inline), v) {
			t.Fatal(inline)
		}
		for _, s := range []api.Style{{Indent: 1}, {Indent: 4, Width: 30}, {Indent: 2, Width: 10, Sort: true}} {
			src, err := Write(v, s)
			back := read(t, src)
			if err != api.OK || !value.Equal(back, v) || !s.Sort && !value.Same(back, v) || s.Sort && !value.Same(back, value.Sorted(v)) {
				t.Fatal(src)
			}
		}
		var out strings.Builder
		for _, c := range inline {
			out.WriteRune(c)
			if strings.ContainsRune("[]{},", c) && !strings.ContainsAny(inline, "\"") {
				out.WriteString(trivia[r.Intn(len(trivia))])
			}
		}
		src := out.String()
		n, _, err := Parse(src, limit.Usual())
		if err != api.OK || tree.Check(n) != api.OK || tree.Print(n) != src {
			t.Fatal(src)
		}
		if back, err := Value(n); err != api.OK || !value.Same(back, v) {
			t.Fatal(src)
		}
		for _, p := range access.Paths(v) {
			indices, err := Locate(n, p)
			if err != api.OK {
				t.Fatal(err)
			}
			span, _ := tree.Inner(n, indices...)
			part, _ := access.Get(v, p)
			if !value.Same(read(t, src[span.From:span.To]), part) {
				t.Fatal(src, p)
			}
		}
		exact := api.Limits{Depth: value.Depth(v), Nodes: value.Size(v), Bytes: len(src)}
		if _, _, err := Parse(src, exact); err != api.OK {
			t.Fatal(err)
		}
		for i, want := range []api.Errno{api.ErrDepth, api.ErrSize, api.ErrSize} {
			less := exact
			*[]*int{&less.Depth, &less.Nodes, &less.Bytes}[i]--
			if _, _, err := Parse(src, less); err == api.OK || limit.Valid(less) && err != want {
				t.Fatal(src, i, err)
			}
		}
	}
}
