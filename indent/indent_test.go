package indent

import (
	"fmt"
	"math/rand"
	"reflect"
	"slices"
	"strings"
	"testing"

	"datakit/access"
	"datakit/api"
	"datakit/brace"
	"datakit/limit"
	"datakit/path"
	"datakit/tree"
	"datakit/value"
)

func usual(t *testing.T, src string) api.Value {
	t.Helper()
	v, at, err := Read(src, limit.Usual())
	if err != api.OK || at != 0 {
		t.Fatalf("Read(%q): %v at %d", src, err, at)
	}
	return v
}

func want(t *testing.T, src string) api.Value {
	t.Helper()
	v, at, err := brace.Read(src, limit.Usual())
	if err != api.OK {
		t.Fatalf("%s: %v at %d", src, err, at)
	}
	return v
}

// P23.1, P23.3
func TestValues(t *testing.T) {
	for src, text := range map[string]string{
		"": "null", "\n # x\n": "null", "1": "1", " a b # c\n": `"a b"`, "null": "null", "[]": "[]", "{}": "{}", "- ": "[null]", "-": "[null]", "a:": "{a: null}",
		"- a: 1\n  b: 2\n- [3, x]\n": `[{a: 1, b: 2}, [3, "x"]]`, "a:\n  - 1": "{a: [1]}", "x: &p [1]\ny: *p": "{x: [1], y: [1]}",
		"a: |\n  u\n    v\nb: 1": `{a: "u\n  v\n", b: 1}`, "a: |-\n  u\n    v\nb: 1": `{a: "u\n  v", b: 1}`, "a: |\nb: 1": `{a: "", b: 1}`, "a: |\n\n  u # x  \n\n\n  v\n\nb: 1": `{a: "\nu # x  \n\n\nv\n", b: 1}`,
		"|": `""`, "|\nx\ty\r\n z": `"x\ty\n z\n"`, "|-  \nx": `"x"`, "- |\n  # x\n  y\n# z\n- 1": `["# x\ny\n", 1]`, "a: |\n  x\n   \n  y": `{a: "x\n\ny\n"}`,
		"- - 1": "", "-\n  - 1\n  - 2\n-\n  a: 1": "[[1, 2], {a: 1}]", "- a:\n    b: 1\n  c: 2": "[{a: {b: 1}, c: 2}]", "- a:\n  b: 1": "[{a: null, b: 1}]", "- a:\n   - 1": "[{a: [1]}]", "a:\n\n  # x\n  1": "{a: 1}", "a:\nb:": "{a: null, b: null}",
		"a: &x\n  b: 1\nc: *x": "{a: {b: 1}, c: {b: 1}}", "&x": "null", "&x\n- 1": "[1]", "- &x 1\n- *x": "[1, 1]", "- &x\n- *x": "[null, null]", "a: &x |\n  u\nb: *x": `{a: "u\n", b: "u\n"}`, "[&x  1, *x,*x ]": "[1, 1, 1]", "{a: &x [1], b: *x}": "{a: [1], b: [1]}", "&a [&b 1, {c: *b}]": "[1, {c: 1}]",
		"[ 1 , [2,3] , {a: 4 , 'b':5,} , ]": "[1, [2, 3], {a: 4, b: 5}]", "{\"a\":1}": "{a: 1}", "[a b, a:b, 'it''s', \"x, y\", -]": "", "[-x, a:b:c]": `["-x", "a:b:c"]`, "{a b: c d}": `{"a b": "c d"}`, "[!b AQI=, 2024-02-29]": `[b"AQI=", t"2024-02-29"]`, "{'a':'b'}": `{a: "b"}`, "{1: 2, null: 3}": `{"1": 2, null: 3}`,
		"'a': 1\n\"b c\": 2\nd e: 3": `{a: 1, "b c": 2, "d e": 3}`, "a: 'x # y' # z": `{a: "x # y"}`, "  a: 1\n  b: 2": "{a: 1, b: 2}", "a:   1": "{a: 1}", "-   1": "[1]", "-   a: 1\n    b: 2": "[{a: 1, b: 2}]", "a:b": `"a:b"`, "- \"a\": 1": "[{a: 1}]", "a:\r\n  b: 1\r\n": "{a: {b: 1}}", "a: [1] # x": "{a: [1]}", "a: it's # x": `{a: "it's"}`, "a: \"b: c\"": `{a: "b: c"}`, "{a: [{b: []}]}": "{a: [{b: []}]}", "- &x\n  a: *y": "",
	} {
		if text == "" {
			if _, _, err := Parse(src, limit.Usual()); err == api.OK {
				t.Errorf("Parse(%q)", src)
			}
			continue
		}
		if got := usual(t, src); !value.Same(got, want(t, text)) {
			t.Errorf("Read(%q) = %v, not %s", src, got, text)
		}
	}
}

// P23.1
func TestTree(t *testing.T) {
	mark := func(lead, text string) api.Node { return api.Node{Kind: api.NMark, Lead: lead, Text: text} }
	key := func(lead, text string) api.Node { return api.Node{Kind: api.NKey, Lead: lead, Text: text} }
	entry := func(kids ...api.Node) api.Node { return api.Node{Kind: api.NEntry, Kids: kids} }
	scalar := func(lead, text string) api.Node { return api.Node{Kind: api.NScalar, Lead: lead, Text: text} }
	doc := func(root api.Node, tail string) api.Node {
		return api.Node{Kind: api.NDocument, Kids: []api.Node{root}, Tail: tail}
	}
	for src, n := range map[string]api.Node{
		"a: 1\nb: 2\n": doc(api.Node{Kind: api.NMap, Kids: []api.Node{entry(key("", "a"), mark("", ":"), scalar(" ", "1")), entry(key("\n", "b"), mark("", ":"), scalar(" ", "2"))}}, "\n"),
		" # x\n":       doc(scalar("", ""), " # x\n"),
		"# x\n- &a\n  - [ 1 , *b ] # y\n- |  \n  z\n\n": {},
		"- &a [ 1 , ] # y\n-\n- |  \n  z \n\n": doc(api.Node{Kind: api.NList, Kids: []api.Node{
			entry(mark("", "-"), api.Node{Kind: api.NAnchor, Lead: " ", Text: "&a", Kids: []api.Node{{Kind: api.NList, Lead: " ", Text: "[", Tail: " ]", Kids: []api.Node{entry(scalar(" ", "1"), mark(" ", ","))}}}}),
			entry(mark(" # y\n", "-"), scalar("", "")), entry(mark("\n", "-"), scalar(" ", "|  \n  z "))}}, "\n\n"),
		"x:\n  - a: 1\n    b: *p": {},
		"x:\n  - a: 1": doc(api.Node{Kind: api.NMap, Kids: []api.Node{entry(key("", "x"), mark("", ":"), api.Node{Kind: api.NList, Lead: "\n  ", Kids: []api.Node{
			entry(mark("", "-"), api.Node{Kind: api.NMap, Lead: " ", Kids: []api.Node{entry(key("", "a"), mark("", ":"), scalar(" ", "1"))}})}})}}, ""),
		"- &a 1\n- *a\n": doc(api.Node{Kind: api.NList, Kids: []api.Node{entry(mark("", "-"), api.Node{Kind: api.NAnchor, Lead: " ", Text: "&a", Kids: []api.Node{scalar(" ", "1")}}), entry(mark("\n", "-"), api.Node{Kind: api.NAlias, Lead: " ", Text: "*a"})}}, "\n"),
	} {
		got, _, err := Parse(src, limit.Usual())
		if n.Kind == 0 {
			if err != api.ErrAlias {
				t.Errorf("%q: %v", src, err)
			}
			continue
		}
		if err != api.OK || !tree.Same(got, n) {
			t.Errorf("%q: %+v", src, got)
		}
	}
}

// P23.1, P23.3: errors
func TestErrors(t *testing.T) {
	long := strings.Repeat("k", api.MaxKey)
	for _, test := range []struct {
		src string
		at  int
		err api.Errno
	}{
		{"a:\n- 1", 3, api.ErrSyntax}, {"&x [*x]", 4, api.ErrAlias}, {"a: 1\n  b: 2", 7, api.ErrIndent}, {"[1, 2", 5, api.ErrSyntax}, {"a: b: c", 3, api.ErrSyntax}, {"- 1\n2", 4, api.ErrSyntax}, {"a: 1\nb", 5, api.ErrSyntax}, {"1\n2", 2, api.ErrIndent}, {"  1\n2", 4, api.ErrIndent}, {"- 1\n - 2", 5, api.ErrIndent}, {"  a: 1\nb: 2", 7, api.ErrIndent}, {"a:\n   b: 1\n  c: 2", 13, api.ErrIndent},
		{"\ta", 0, api.ErrIndent}, {"  \ta", 2, api.ErrIndent}, {"a: 1\n\tb: 1", 5, api.ErrIndent}, {"a:\n\t# x", 3, api.ErrIndent}, {"a:\n\t", 3, api.ErrIndent}, {"a: \tb", 3, api.ErrText}, {"a\tb", 0, api.ErrText},
		{"a: 1\na: 2", 5, api.ErrExists}, {"a: 1\n'a': 2", 5, api.ErrExists}, {long + "k: 1", 0, api.ErrSize}, {"- " + long + "k: 1", 2, api.ErrSize}, {"{a: 1, a: 2}", 7, api.ErrExists}, {"{" + long + "k: 1}", 1, api.ErrSize}, {"{a: 1, \"\\u0061\": 2}", 7, api.ErrExists},
		{"&", 0, api.ErrSyntax}, {"& a", 0, api.ErrSyntax}, {"&a,b", 0, api.ErrSyntax}, {"&a &b 1", 3, api.ErrSyntax}, {"a: &x\n  &y 1", 8, api.ErrSyntax}, {"- &a 1\n- &a 2", 9, api.ErrExists}, {"- &a b: 1", 5, api.ErrSyntax}, {"*", 0, api.ErrSyntax}, {"*a b", 0, api.ErrSyntax}, {"*a", 0, api.ErrAlias}, {"&" + strings.Repeat("x", 65), 0, api.ErrSyntax}, {"- *a\n- &a 1", 2, api.ErrAlias}, {"&a [&a 1]", 4, api.ErrExists}, {"&a\n- *a", 5, api.ErrAlias},
		{"[,]", 1, api.ErrSyntax}, {"[1,,]", 3, api.ErrSyntax}, {"[1 2] x", 6, api.ErrSyntax}, {"[1] x", 4, api.ErrSyntax}, {"[a: b]", 2, api.ErrSyntax}, {"[: b]", 1, api.ErrSyntax}, {"[}", 1, api.ErrSyntax}, {"[[1]", 4, api.ErrSyntax}, {"{a}", 2, api.ErrSyntax}, {"{a:1}", 4, api.ErrSyntax}, {"{a: }", 4, api.ErrSyntax}, {"{a: 1 b: 2}", 7, api.ErrSyntax}, {"{,}", 1, api.ErrSyntax}, {"{", 1, api.ErrSyntax}, {"{a", 2, api.ErrSyntax}, {"{a:", 3, api.ErrSyntax}, {"{*a: 1}", 1, api.ErrSyntax}, {"{a::, b: 1}", 1, api.ErrSyntax}, {"{'a: 1}", 1, api.ErrSyntax}, {"{\"\\ud800\": 1}", 1, api.ErrText}, {"{a\tb: 1}", 1, api.ErrText}, {"[&a]", 1, api.ErrSyntax}, {"[&a ]", 4, api.ErrSyntax}, {"[&a &b 1]", 4, api.ErrSyntax}, {"[*a:b]", 1, api.ErrSyntax}, {"[&a 1, &a 2]", 7, api.ErrExists}, {"['a]", 1, api.ErrSyntax}, {"['a'b]", 4, api.ErrSyntax}, {"[1e999]", 1, api.ErrRange}, {"[a #b]", 2, api.ErrSyntax}, {"[1,\n2]", 3, api.ErrSyntax}, {"[\"\\q\"]", 1, api.ErrSyntax}, {"[\"\\ud800\"]", 1, api.ErrText}, {"[-, 1]", 1, api.ErrSyntax}, {"{a: 1}}", 6, api.ErrSyntax}, {"[*", 1, api.ErrSyntax},
		{"1e999", 0, api.ErrRange}, {"- 2024-02-30", 2, api.ErrRange}, {"@", 0, api.ErrSyntax}, {"- - 1", 2, api.ErrSyntax}, {"a: - b", 3, api.ErrSyntax}, {"a: | # x\n  y", 3, api.ErrSyntax}, {"a: |+\n  y", 3, api.ErrSyntax}, {"a: 'x", 3, api.ErrSyntax}, {"a: \"\\ud800\"", 3, api.ErrText}, {"!b A", 0, api.ErrSyntax},
		{"a: |\n    x\n  y\n", 13, api.ErrIndent}, {"a: |\n    x\n  # y\n", 13, api.ErrIndent}, {"|\n" + strings.Repeat("x", api.MaxText), 0, api.ErrSize}, {"|-\n" + strings.Repeat("x", api.MaxText), 0, api.OK}, {"|\n " + strings.Repeat("x", api.MaxText) + "\ny", api.MaxText + 4, api.ErrIndent}, {"a: \"" + strings.Repeat("x", api.MaxText+1) + "\"", 3, api.ErrSize},
		{"a\xff", 1, api.ErrText}, {"a: [\xff", 4, api.ErrText}, {strings.Repeat("\xff", api.MaxInput+1), 0, api.ErrSize}, {strings.Repeat("[", 49), 48, api.ErrDepth}, {strings.Repeat("[", 48) + strings.Repeat("]", 48), 0, api.OK},
	} {
		n, at, err := Parse(test.src, limit.Usual())
		if at != test.at || err != test.err || err != api.OK && !reflect.DeepEqual(n, api.Node{}) {
			t.Errorf("Parse(%.30q) = %d, %v, not %d, %v", test.src, at, err, test.at, test.err)
		}
		v, at, err := Read(test.src, limit.Usual())
		if at != test.at || err != test.err || err != api.OK && !reflect.DeepEqual(v, api.Value{}) {
			t.Errorf("Read(%.30q) = %d, %v", test.src, at, err)
		}
	}
}

// P23.1: limits
func TestLimits(t *testing.T) {
	for _, test := range []struct {
		src                           string
		depth, nodes, aliases, expand int
		at                            int
		err                           api.Errno
	}{
		{"- 1", 1, 9, 0, 0, 2, api.ErrDepth}, {"- 1", 2, 1, 0, 0, 2, api.ErrSize}, {"- 1", 2, 2, 0, 0, 0, 0}, {"a:", 1, 2, 0, 0, 2, api.ErrDepth}, {"a:\n\tb", 1, 2, 0, 0, 2, api.ErrDepth}, {"a:\n\tb", 2, 2, 0, 0, 3, api.ErrIndent}, {"a:\n  b: 1", 1, 9, 0, 0, 5, api.ErrDepth}, {"- a: 1", 1, 9, 0, 0, 2, api.ErrDepth}, {"- " + strings.Repeat("k", 1025) + ": 1", 1, 9, 0, 0, 2, api.ErrDepth}, {"- a: b: c", 2, 9, 0, 0, 5, api.ErrDepth}, {"- *", 1, 9, 0, 0, 2, api.ErrSyntax}, {"- *x", 1, 9, 0, 0, 2, api.ErrDepth}, {"- &x &y", 1, 9, 0, 0, 5, api.ErrSyntax}, {"- | # x", 1, 1, 0, 0, 2, api.ErrDepth},
		{"- &x [1]\n- *x", 3, 4, 1, 2, 0, 0}, {"- &x [1]\n- *x", 3, 3, 1, 2, 11, api.ErrSize}, {"- &x [1]\n- *x", 3, 4, 0, 2, 11, api.ErrAlias}, {"- &x [1]\n- *x", 3, 4, 1, 1, 11, api.ErrExpand}, {"- &x [1]\n- [*x]", 3, 9, 1, 2, 12, api.ErrDepth}, {"- &x [1]\n- [*x]", 4, 5, 1, 2, 0, 0}, {"- &x [1]\n- &y [*x]\n- *y", 4, 9, 2, 5, 0, 0}, {"- &x [1]\n- &y [*x]\n- *y", 4, 9, 2, 4, 21, api.ErrExpand}, {"- &x [1]\n- &y [*x]\n- [*y]", 4, 9, 2, 5, 22, api.ErrDepth},
		{"1", 0, 1, 0, 0, 0, api.ErrArg}, {"\xff", 1, 1, -1, 0, 0, api.ErrArg}, {"[[]]", 2, 2, 0, 0, 0, 0}, {"", 1, 1, 0, 0, 0, 0},
	} {
		l := api.Limits{Depth: test.depth, Nodes: test.nodes, Bytes: api.MaxInput, Aliases: test.aliases, Expand: test.expand}
		n, at, err := Parse(test.src, l)
		if at != test.at || err != test.err {
			t.Errorf("Parse(%.20q) = %d, %v, not %d, %v", test.src, at, err, test.at, test.err)
		}
		if u, _, err := Parse(test.src, limit.Usual()); err == api.OK {
			if v, err := Value(u, l); err != test.err || err != api.OK && !reflect.DeepEqual(v, api.Value{}) {
				t.Errorf("Value(%q): %v", test.src, err)
			}
		}
		_ = n
	}
	big := "- &x [" + strings.Repeat("1,", 30000) + "]\n- *x\n"
	if _, _, err := Parse(big, limit.Usual()); err != api.OK {
		t.Error(err)
	}
	if _, at, err := Parse(big+"- *x\n", limit.Usual()); err != api.ErrSize || at != len(big)+2 {
		t.Error(at, err)
	}
	l := limit.Usual()
	l.Bytes = 3
	if _, at, err := Parse("\xff123", l); at != 0 || err != api.ErrSize {
		t.Error(at, err)
	}
}

// P23.2, P23.6, P23.7
func TestBadTrees(t *testing.T) {
	n, _, _ := Parse("a: 1", limit.Usual())
	bad := n
	bad.Kids = []api.Node{{Kind: api.NScalar, Text: "a: 1"}}
	for _, b := range []api.Node{bad, {}, n.Kids[0], {Kind: 99}, {Kind: api.NDocument}} {
		if v, err := Value(b, limit.Usual()); err != api.ErrArg || !reflect.DeepEqual(v, api.Value{}) {
			t.Error(err)
		}
		if l, err := Locate(b, nil); err != api.ErrArg || l != nil || Comments(b) != nil {
			t.Error(err)
		}
	}
	if _, err := Value(n, api.Limits{}); err != api.ErrArg {
		t.Error(err)
	}
}

// P23.4, P23.5
func TestWrite(t *testing.T) {
	for _, test := range []struct {
		v     string
		s     api.Style
		lines string
	}{
		{`{a: [1, {b: 2, c: []}], d: "x: y"}`, api.Style{Indent: 2}, "a:\n  - 1\n  - b: 2\n    c: []\nd: \"x: y\"\n"},
		{`{a: [1, {b: 2, c: []}], d: "x: y"}`, api.Style{Indent: 4, Width: 24}, "a: [1, {b: 2, c: []}]\nd: \"x: y\"\n"},
		{`{a: [1, {b: 2, c: []}], d: "x: y"}`, api.Style{Indent: 4, Width: 20}, "a:\n    - 1\n    - {b: 2, c: []}\nd: \"x: y\"\n"},
		{`{a: [1, {b: 2, c: []}], d: "x: y"}`, api.Style{Indent: 4, Width: 33}, "a: [1, {b: 2, c: []}]\nd: \"x: y\"\n"},
		{`{a: [1, {b: 2, c: []}], d: "x: y"}`, api.Style{Indent: 4, Width: 34}, "{a: [1, {b: 2, c: []}], d: \"x: y\"}\n"},
		{`[[1], {b: [2]}, {}]`, api.Style{Indent: 3}, "-\n   - 1\n- b:\n     - 2\n- {}\n"},
		{`"a"`, api.Style{Indent: 1}, "a\n"}, {`"a\nb"`, api.Style{Indent: 1}, "|-\n a\n b\n"}, {`["a\n\nb\n", " a\nb", "a\n", "\n", "a\n \nb", "a\tb\n", "a\n\n"]`, api.Style{Indent: 2, Width: 9}, "- |\n  a\n\n  b\n- \" a\\nb\"\n- |\n  a\n- \"\\n\"\n- \"a\\n \\nb\"\n- \"a\\tb\\n\"\n- \"a\\n\\n\"\n"},
		{`{b: {"d e": 1, "é:": 2}, a: "x\ny"}`, api.Style{Indent: 2, Sort: true}, "a: |-\n  x\n  y\nb:\n  d e: 1\n  \"é:\": 2\n"},
		{`{"null": [[]], "12": null}`, api.Style{Indent: 2}, "null:\n  - []\n12: null\n"},
	} {
		v := want(t, test.v)
		got, err := Write(v, test.s)
		if got != test.lines || err != api.OK {
			t.Errorf("Write(%s, %v) = %q", test.v, test.s, got)
		}
		if back := usual(t, got); !value.Equal(back, v) {
			t.Errorf("%q", got)
		}
	}
	v := want(t, `{a: "b c", "d,": [1, {}], e: null}`)
	if got, err := Inline(v); got != `{a: b c, "d,": [1, {}], e: null}` || err != api.OK {
		t.Error(got)
	}
	for _, s := range []api.Style{{}, {Indent: 9}, {Indent: 2, Width: -1}} {
		if got, err := Write(v, s); got != "" || err != api.ErrArg {
			t.Error(got, err)
		}
	}
	if _, err := Write(api.Value{Kind: 9}, api.Style{}); err != api.ErrKind {
		t.Error(err)
	}
	if _, err := Inline(value.Text("\xff")); err != api.ErrText {
		t.Error(err)
	}
	list := api.Value{Kind: api.VList}
	for range 16 {
		list.List = append(list.List, value.Text(strings.Repeat("x", api.MaxText-2)))
	}
	if got, err := Inline(list); err != api.OK || len(got) != api.MaxInput {
		t.Error(len(got), err)
	}
	if got, err := Write(list, api.Style{Indent: 8}); err != api.ErrSize || got != "" {
		t.Error(len(got), err)
	}
	list.List[0].Text += "xx"
	if got, err := Inline(list); err != api.ErrSize || got != "" {
		t.Error(len(got), err)
	}
}

// P23.6
func TestLocate(t *testing.T) {
	n, _, err := Parse("a: &x\n  - [1, &y {b: 2}]\nc: [*x, 3]\nd: *x\n'e': &z *x\n", limit.Usual())
	if err != api.OK {
		t.Fatal(err)
	}
	for text, want := range map[string][]int{
		".": {0}, ".a": {0, 0, 2, 0}, ".a[0]": {0, 0, 2, 0, 0, 1}, ".a[0][1]": {0, 0, 2, 0, 0, 1, 1, 0, 0}, ".a[0][1].b": {0, 0, 2, 0, 0, 1, 1, 0, 0, 0, 2}, ".c[0]": {0, 1, 2, 0, 0}, ".c[1]": {0, 1, 2, 1, 0}, ".d": {0, 2, 2}, ".e": {0, 3, 2, 0},
	} {
		p, _ := path.Parse(text)
		if got, err := Locate(n, p); err != api.OK || !slices.Equal(got, want) {
			t.Errorf("%s: %v, %v", text, got, err)
		}
	}
	for text, want := range map[string]api.Errno{".d[0]": api.ErrSplit, ".d[0][1].b": api.ErrSplit, ".d[1]": api.ErrNotFound, ".d.x": api.ErrKind, ".e[0]": api.ErrSplit, ".c[0][0][0]": api.ErrSplit, ".c[0][0][0].x": api.ErrKind, ".x": api.ErrNotFound, ".[0]": api.ErrKind, ".c[2]": api.ErrNotFound} {
		p, _ := path.Parse(text)
		if got, err := Locate(n, p); err != want || got != nil {
			t.Errorf("%s: %v, %v", text, got, err)
		}
	}
	if _, err := Locate(n, []api.Step{path.At(-1)}); err != api.ErrArg {
		t.Error(err)
	}
}

// P23.7
func TestComments(t *testing.T) {
	n, _, err := Parse("# a\r\n\nx: # b\n  - 1 # c # d\n  - |\n   # no\n  # e\ny: '# no'\n   # f\r", limit.Usual())
	if err != api.OK {
		t.Fatal(err)
	}
	if got := Comments(n); !slices.Equal(got, []string{"# a", "# b", "# c # d", "# e", "# f\r"}) {
		t.Errorf("%q", got)
	}
}

func randomValue(r *rand.Rand, depth int) api.Value {
	k := r.Intn(11)
	if depth == 0 {
		k = r.Intn(6)
	}
	switch k {
	case 0:
		return value.Null()
	case 1:
		return value.Bool(r.Intn(2) == 0)
	case 2:
		return value.Int(r.Intn(2000) - 1000)
	case 3:
		return value.Time(api.Time{Kind: api.TimeInstant, Day: 1 + r.Intn(9), Nano: r.Intn(api.MaxNano), Offset: r.Intn(60)})
	case 4:
		return value.Text([]string{"", "a", "a b", "é\n\"", "x\x00\\", "a\nb", "a\n\nb\n", "- x", "k: v", "# x", " a", "a\n", "*x", "12", "null", "'", "a #b", "a\r\nb", "x\n  y\n", "x # y\nz", "|"}[r.Intn(21)])
	case 5:
		return value.Bytes([]byte("abc")[:r.Intn(4)])
	}
	v := api.Value{Kind: api.VList + r.Intn(2)}
	for i := range r.Intn(4) {
		x := randomValue(r, depth-1)
		if v.Kind == api.VList {
			v.List = append(v.List, x)
		} else {
			v.Fields = append(v.Fields, api.Field{Key: []string{"a", "", "é", "null", "b c", "x:", "'", "#", "- y"}[r.Intn(9)] + fmt.Sprint(i), Val: x})
		}
	}
	return v
}

// P23.8, W1, W2
func TestRoundTrip(t *testing.T) {
	r := rand.New(rand.NewSource(1))
	for range 2000 {
		v := randomValue(r, 4)
		inline, err := Inline(v)
		if err != api.OK || !value.Same(usual(t, inline), v) {
			t.Fatal(inline)
		}
		for _, s := range []api.Style{{Indent: 1}, {Indent: 4, Width: 30}, {Indent: 2, Width: 10, Sort: true}, {Indent: 2}} {
			src, err := Write(v, s)
			back := usual(t, src)
			if err != api.OK || !value.Equal(back, v) || !s.Sort && !value.Same(back, v) || s.Sort && !value.Same(back, value.Sorted(v)) {
				t.Fatal(src)
			}
			n, _, err := Parse(src, limit.Usual())
			if err != api.OK || tree.Check(n) != api.OK || tree.Print(n) != src {
				t.Fatal(src)
			}
			if again, err := Value(n, limit.Usual()); err != api.OK || !value.Same(again, back) {
				t.Fatal(src)
			}
			for _, p := range access.Paths(back) {
				if _, err := Locate(n, p); err != api.OK {
					t.Fatal(err)
				}
			}
			exact := api.Limits{Depth: value.Depth(v), Nodes: value.Size(v), Bytes: len(src)}
			if _, _, err := Parse(src, exact); err != api.OK {
				t.Fatal(err)
			}
			for i, want := range []api.Errno{api.ErrDepth, api.ErrSize, api.ErrSize} {
				less := exact
				*[]*int{&less.Depth, &less.Nodes, &less.Bytes}[i]--
				if _, _, err := Parse(src, less); err == api.OK || limit.Valid(less) && err != want {
					t.Fatal(src, i, err)
				}
			}
		}
	}
}

// W1: whatever can be read is the text of its tree.
func TestRandomSources(t *testing.T) {
	r := rand.New(rand.NewSource(2))
	pieces := []string{"a", "b: ", "- ", "\n", "  ", " ", "[", "]", "{", "}", ",", "'", "# x\n", "&x ", "*x", "|\n", "1", ":", "\r\n", "\t"}
	good := 0
	for range 60000 {
		src := ""
		for range 1 + r.Intn(10) {
			src += pieces[r.Intn(len(pieces))]
		}
		n, at, err := Parse(src, limit.Usual())
		if err == api.OK {
			good++
			if tree.Print(n) != src || tree.Check(n) != api.OK {
				t.Fatalf("%q", src)
			}
			if v, err := Value(n, limit.Usual()); err != api.OK || value.Check(v) != api.OK {
				t.Fatalf("%q", src)
			}
		} else if at < 0 || at > len(src) || err == api.ErrTruncated {
			t.Fatalf("%q: %v at %d", src, err, at)
		}
	}
	if good < 1000 {
		t.Error(good)
	}
}
