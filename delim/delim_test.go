package delim

import (
	"math/rand"
	"reflect"
	"strings"
	"testing"

	"datakit/api"
	"datakit/limit"
	"datakit/tree"
)

var bare = api.Dialect{Sep: ',', Quote: '"'}

// P27.1
func TestValid(t *testing.T) {
	if Usual() != (api.Dialect{Sep: ',', Quote: '"', Header: true, Typed: true}) || !Valid(Usual()) {
		t.Error("Usual")
	}
	for _, d := range []api.Dialect{{Sep: '\t', Quote: '\''}, {Sep: ' ', Quote: '!'}, {Sep: '~', Quote: '_'}, {Sep: ';', Quote: '%', Header: true}} {
		if !Valid(d) {
			t.Error(d)
		}
	}
	for _, d := range []api.Dialect{{}, {Sep: ','}, {Quote: '"'}, {Sep: ',', Quote: ','}, {Sep: 'a', Quote: '"'}, {Sep: ',', Quote: 'Z'}, {Sep: '5', Quote: '"'}, {Sep: '+', Quote: '"'}, {Sep: ',', Quote: '-'}, {Sep: '.', Quote: '"'}, {Sep: ':', Quote: '"'}, {Sep: ',', Quote: ' '}, {Sep: 127, Quote: '"'}, {Sep: 200, Quote: '"'}, {Sep: '\n', Quote: '"'}, {Sep: ',', Quote: '\t'}} {
		if Valid(d) {
			t.Error(d)
		}
		n, _, _ := Parse("", bare, limit.Usual())
		if _, _, err := Parse("", d, limit.Usual()); err != api.ErrArg {
			t.Error(err)
		}
		if _, err := Records(n, d); err != api.ErrArg {
			t.Error(err)
		}
		if _, err := Quote("\xff", d); err != api.ErrArg {
			t.Error(err)
		}
		if _, err := Line(nil, d); err != api.ErrArg {
			t.Error(err)
		}
		if _, err := Text(nil, d); err != api.ErrArg {
			t.Error(err)
		}
	}
}

// P27.2, P27.3
func TestParse(t *testing.T) {
	for src, want := range map[string][][]string{
		"": nil, "\n": {{""}}, "a,\"b \"\"c\"\", d\"": {{"a", "b \"c\", d"}}, "a,b\r\n1,\n": {{"a", "b"}, {"1", ""}}, "\"x\ny\",\"\"\n,": {{"x\ny", ""}, {"", ""}}, "a\n\nb": {{"a"}, {""}, {"b"}}, "\"\r\"": {{"\r"}}, "\n\n": {{""}, {""}}, "\"\"\"\"": {{"\""}},
	} {
		n, at, err := Parse(src, bare, limit.Usual())
		if err != api.OK || at != 0 || tree.Print(n) != src || tree.Check(n) != api.OK {
			t.Errorf("Parse(%q): %v at %d", src, err, at)
		}
		got, err := Records(n, bare)
		if err != api.OK || !reflect.DeepEqual(got, want) {
			t.Errorf("Records(%q) = %q", src, got)
		}
	}
	n, _, _ := Parse("a,b", bare, limit.Usual())
	want := api.Node{Kind: api.NDocument, Kids: []api.Node{{Kind: api.NRecord, Kids: []api.Node{{Kind: api.NEntry, Kids: []api.Node{{Kind: api.NScalar, Text: "a"}, {Kind: api.NMark, Text: ","}}}, {Kind: api.NEntry, Kids: []api.Node{{Kind: api.NScalar, Text: "b"}}}}}}}
	if !tree.Same(n, want) {
		t.Error(n)
	}
	n, _, _ = Parse("a,\"b\"\r\n\"\",\n", bare, limit.Usual())
	if q, err := Quoted(n, bare); err != api.OK || !reflect.DeepEqual(q, [][]bool{{false, true}, {true, false}}) || n.Kids[0].Tail != "\r\n" {
		t.Error(q, err)
	}
	other := n
	other.Kids = []api.Node{{Kind: api.NRecord, Kids: []api.Node{{Kind: api.NEntry, Kids: []api.Node{{Kind: api.NScalar, Text: "a,b"}}}}}}
	for _, bad := range []api.Node{{}, other, n.Kids[0], {Kind: 99}, {Kind: api.NDocument, Tail: "\n"}} {
		if r, err := Records(bad, bare); err != api.ErrArg || r != nil {
			t.Error(err)
		}
		if r, err := Quoted(bad, bare); err != api.ErrArg || r != nil {
			t.Error(err)
		}
	}
	if _, err := Records(n, api.Dialect{Sep: ';', Quote: '"'}); err != api.ErrArg {
		t.Error(err)
	}
	if _, err := Records(nested(100000), bare); err != api.ErrArg {
		t.Error(err)
	}
}

func nested(n int) api.Node {
	x := api.Node{Kind: api.NDocument}
	for range n {
		x = api.Node{Kind: api.NDocument, Kids: []api.Node{x}}
	}
	return x
}

// P27.2: errors
func TestErrors(t *testing.T) {
	key, text := strings.Repeat("k", api.MaxKey), strings.Repeat("x", api.MaxText)
	for _, test := range []struct {
		src string
		d   api.Dialect
		at  int
		err api.Errno
	}{
		{"a,b\n1", bare, 5, api.ErrSize}, {"a,b\n1,2,3", bare, 8, api.ErrSize}, {"a\"b", bare, 1, api.ErrSyntax}, {"\"a\"b", bare, 3, api.ErrSyntax}, {"\"a", bare, 2, api.ErrTruncated}, {"a,a", Usual(), 2, api.ErrExists}, {"a,a", bare, 0, 0}, {"a,b\n1\n", bare, 5, api.ErrSize}, {"a,b\n1\r\n", bare, 5, api.ErrSize}, {"a\n1,", bare, 4, api.ErrSize}, {"a\n1,\"", bare, 4, api.ErrSize},
		{"a\r", bare, 2, api.ErrTruncated}, {"a\rb", bare, 1, api.ErrSyntax}, {"\r", bare, 1, api.ErrTruncated}, {"\"a\"\r\r\n", bare, 3, api.ErrSyntax}, {"\"a\"\"", bare, 4, api.ErrTruncated}, {"\"", bare, 1, api.ErrTruncated}, {"a,b\n1\r", bare, 6, api.ErrTruncated}, {"a,b\n1\rx", bare, 5, api.ErrSyntax}, {"a\xff", bare, 1, api.ErrText}, {strings.Repeat("\xff", api.MaxInput+1), bare, 0, api.ErrSize},
		{key, Usual(), 0, 0}, {"a," + key + "k", Usual(), 2, api.ErrSize}, {key + "k", bare, 0, 0}, {text, bare, 0, 0}, {"\"" + text + "\"", bare, 0, 0}, {"a\n" + text + "x", bare, 2, api.ErrSize}, {"a\n\"" + text + "x\"z", bare, 2, api.ErrSize}, {"a\n" + text + "x\"", bare, 2 + api.MaxText + 1, api.ErrSyntax}, {"a,\"a\"", Usual(), 2, api.ErrExists}, {"a\na", Usual(), 0, 0},
	} {
		n, at, err := Parse(test.src, test.d, limit.Usual())
		if at != test.at || err != test.err || err != api.OK && !reflect.DeepEqual(n, api.Node{}) {
			t.Errorf("Parse(%.20q) = %d, %v, not %d, %v", test.src, at, err, test.at, test.err)
		}
	}
	for _, test := range []struct {
		src          string
		d            api.Dialect
		depth, nodes int
		at           int
		err          api.Errno
	}{
		{"", bare, 1, 1, 0, 0}, {"a", bare, 1, 9, 0, api.ErrDepth}, {"a", bare, 2, 9, 0, api.ErrDepth}, {"a", bare, 3, 1, 0, api.ErrSize}, {"a", bare, 3, 2, 0, api.ErrSize}, {"a", bare, 3, 3, 0, 0}, {"a,b", bare, 3, 3, 2, api.ErrSize}, {"a,b\n", Usual(), 1, 1, 0, 0}, {"a,b\n1", Usual(), 1, 1, 4, api.ErrDepth}, {"a,b\n1", Usual(), 3, 1, 4, api.ErrSize}, {"a,b\n1,2", Usual(), 3, 3, 6, api.ErrSize}, {"a,b\n1,2", Usual(), 3, 4, 0, 0}, {"a\n1,2", bare, 3, 5, 4, api.ErrSize}, {"\xff", bare, 0, 1, 0, api.ErrArg},
	} {
		l := limit.Usual()
		l.Depth, l.Nodes = test.depth, test.nodes
		if _, at, err := Parse(test.src, test.d, l); at != test.at || err != test.err {
			t.Errorf("Parse(%q, %v) = %d, %v", test.src, l, at, err)
		}
	}
}

// P27.4 to P27.6
func TestWrite(t *testing.T) {
	for s, want := range map[string]string{"x,y": `"x,y"`, "": "", "a\"b": `"a""b"`, "a\nb": "\"a\nb\"", "\r": "\"\r\"", "é ;": "é ;"} {
		if got, err := Quote(s, bare); got != want || err != api.OK {
			t.Errorf("Quote(%q) = %q", s, got)
		}
	}
	if got, _ := Quote("a;'", api.Dialect{Sep: ';', Quote: '\''}); got != "'a;'''" {
		t.Error(got)
	}
	if _, err := Quote("\xff", bare); err != api.ErrText {
		t.Error(err)
	}
	if got, err := Line([]string{"a", "b,", ""}, bare); got != "a,\"b,\",\n" || err != api.OK {
		t.Error(got)
	}
	for _, test := range []struct {
		l   []string
		err api.Errno
	}{{nil, api.ErrArg}, {[]string{"a", "\xff"}, api.ErrText}} {
		if got, err := Line(test.l, bare); got != "" || err != test.err {
			t.Error(err)
		}
	}
	if got, err := Text([][]string{{"a"}, {""}}, bare); got != "a\n\n" || err != api.OK {
		t.Error(got)
	}
	if got, err := Text(nil, bare); got != "" || err != api.OK {
		t.Error(got)
	}
	x := strings.Repeat("x", api.MaxInput-1)
	for _, test := range []struct {
		l   [][]string
		err api.Errno
	}{{[][]string{{"a"}, {}}, api.ErrArg}, {[][]string{{}, {"a"}}, api.ErrArg}, {[][]string{{"a"}, {"b", "c"}}, api.ErrSize}, {[][]string{{"a"}, {"\xff"}, {}}, api.ErrText}, {[][]string{{"a"}, {"\xff", "b"}}, api.ErrSize}, {[][]string{{x}}, api.OK}, {[][]string{{x + "x"}}, api.ErrSize}, {[][]string{{x}, {"\xff"}}, api.ErrText}, {[][]string{{x}, {x}, {}}, api.ErrArg}} {
		if got, err := Text(test.l, bare); err != test.err || err != api.OK && got != "" {
			t.Error(err, test.err)
		}
	}
}

// P27.7
func TestSniff(t *testing.T) {
	for src, want := range map[string]api.Dialect{
		"name;size\na;1": {Sep: ';', Quote: '"', Header: true, Typed: true}, "": Usual(), "\"": Usual(), "a": {Sep: ',', Quote: '"', Typed: true}, "a,b;c\n1,2;3": {Sep: ',', Quote: '"', Header: true, Typed: true}, "a,b;c;d\n1,2;3;4": {Sep: ';', Quote: '"', Header: true, Typed: true}, "a\tb\n1\t2": {Sep: '\t', Quote: '"', Header: true, Typed: true}, "1|2\n3|4": {Sep: '|', Quote: '"', Typed: true},
		"a,a\n1,2": {Sep: ',', Quote: '"', Typed: true}, "a,\n1,2": {Sep: ',', Quote: '"', Typed: true}, "_a,\"b\"\n1,2": {Sep: ',', Quote: '"', Header: true, Typed: true}, "a,b": {Sep: ',', Quote: '"', Typed: true}, "a,b\n1": {Sep: ';', Quote: '"', Header: true, Typed: true}, "é,b\n1,2": {Sep: ',', Quote: '"', Typed: true}, "\xff": Usual(),
	} {
		if got := Sniff(src); got != want {
			t.Errorf("Sniff(%q) = %v", src, got)
		}
	}
}

// P27.8
func TestConsequences(t *testing.T) {
	r := rand.New(rand.NewSource(1))
	pieces := []string{"a", ",", "\"", "\n", "\r\n", "\"b\"", "é", "\"\"", "x,y\n", "1,2\n"}
	good := 0
	for range 30000 {
		src := ""
		for range r.Intn(9) {
			src += pieces[r.Intn(len(pieces))]
		}
		n, at, err := Parse(src, bare, limit.Usual())
		if err != api.OK {
			if at < 0 || at > len(src) {
				t.Fatal(src, at)
			}
			continue
		}
		good++
		records, err := Records(n, bare)
		if err != api.OK || tree.Print(n) != src || tree.Check(n) != api.OK {
			t.Fatalf("%q", src)
		}
		again, err := Text(records, bare)
		m, _, err2 := Parse(again, bare, limit.Usual())
		back, _ := Records(m, bare)
		if err != api.OK || err2 != api.OK || !reflect.DeepEqual(back, records) {
			t.Fatalf("%q: %q", src, again)
		}
		end, nodes := 0, 1
		for i, record := range n.Kids {
			nodes += 1 + len(record.Kids)
			end += len(tree.Print(record))
			if m, _, err := Parse(src[:end], bare, limit.Usual()); err != api.OK || len(m.Kids) != i+1 {
				t.Fatalf("%q", src)
			}
		}
		depth := 3
		if len(n.Kids) == 0 {
			depth = 1
		}
		exact := api.Limits{Depth: depth, Nodes: nodes, Bytes: max(len(src), 1)}
		if _, _, err := Parse(src, bare, exact); err != api.OK {
			t.Fatal(src, err)
		}
		for i := range 3 {
			less := exact
			*[]*int{&less.Depth, &less.Nodes, &less.Bytes}[i]--
			if _, _, err := Parse(src, bare, less); err == api.OK {
				t.Fatal(src)
			}
		}
	}
	if good < 2000 {
		t.Error(good)
	}
}
