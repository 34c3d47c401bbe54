package audit

import (
	"strings"
	"testing"

	"datakit/api"
	"datakit/convert"
	"datakit/edit"
	"datakit/event"
	"datakit/explain"
	"datakit/module"
	"datakit/path"
	"datakit/qeval"
	"datakit/qparse"
	"datakit/reader"
	"datakit/schema"
	"datakit/validate"
	"datakit/value"
	"datakit/writer"
)

func val(t *testing.T, src string) api.Value {
	t.Helper()
	v, at, err := reader.Read(api.FmtBrace, src, reader.Usual())
	if err != api.OK {
		t.Fatal(src, at, err)
	}
	return v
}

func doc(t *testing.T, format int, src string) api.Doc {
	t.Helper()
	d, at, err := reader.Parse(format, src, reader.Usual())
	if err != api.OK {
		t.Fatal(src, at, err)
	}
	return d
}

func program(t *testing.T, src string) api.Program {
	t.Helper()
	m, at, err := qparse.Module("main", src)
	if err != api.OK {
		t.Fatal(src, at, err)
	}
	p, err := module.Link(m, nil)
	if err != api.OK {
		t.Fatal(src, err)
	}
	return p
}

func steps(t *testing.T, text string) []api.Step {
	t.Helper()
	p, err := path.Parse(text)
	if err != api.OK {
		t.Fatal(text, err)
	}
	return p
}

// expect compares faults, written as in the chapter, with those that were found.
func expect(t *testing.T, name string, got []api.Fault, want string) {
	t.Helper()
	text := ""
	for _, f := range got {
		text += " " + f.Promise + "/" + f.At
	}
	if strings.TrimSpace(text) != want {
		t.Errorf("%s: %q, not %q", name, text, want)
	}
}

// P60.1, example 1
func TestSource(t *testing.T) {
	usual := reader.Usual()
	src := "{a: 1}"
	d := doc(t, api.FmtBrace, src)
	v := val(t, src)
	expect(t, "right", Source(api.FmtBrace, src, usual, d, v), "")
	expect(t, "example", Source(api.FmtBrace, src, usual, d, val(t, "{}")), "W2/value")
	expect(t, "null", Source(api.FmtBrace, src, usual, d, api.Value{}), "W2/value")
	expect(t, "text", Source(api.FmtBrace, src, usual, doc(t, api.FmtBrace, "{a: 2}"), v), "W1/text W1/tree")
	expect(t, "zero", Source(api.FmtBrace, src, usual, api.Doc{}, api.Value{}), "W1/text W1/tree W2/value")
	other := api.Doc{Format: api.FmtBrace, Tree: api.Node{Kind: api.NDocument, Lead: src}}
	expect(t, "tree", Source(api.FmtBrace, src, usual, other, v), "W1/tree")
	other.Tree.Kind = 0
	expect(t, "kind", Source(api.FmtBrace, src, usual, other, v), "W1/text W1/tree")
	loop := d
	loop.Tree.Kids = []api.Node{{}}
	loop.Tree.Kids[0] = loop.Tree
	expect(t, "loop", Source(api.FmtBrace, src, usual, loop, v), "W1/text W1/tree")
	format := d
	format.Format = api.FmtIndent
	expect(t, "format", Source(api.FmtBrace, src, usual, format, v), "W1/tree")
	dialect := d
	dialect.Dialect = usual.Dialect
	expect(t, "dialect", Source(api.FmtBrace, src, usual, dialect, v), "W1/tree")
	expect(t, "order", Source(api.FmtBrace, "{a: 1, b: 2}", usual, doc(t, api.FmtBrace, "{a: 1, b: 2}"), val(t, "{b: 2, a: 1}")), "W2/value")
	expect(t, "unread", Source(api.FmtBrace, "[", usual, api.Doc{}, api.Value{}), "")
	expect(t, "unread", Source(api.FmtBrace, "[", usual, d, api.Value{}), "W1/read")
	expect(t, "unread", Source(api.FmtBrace, "[", usual, api.Doc{Format: 1}, api.Value{}), "W1/read")
	expect(t, "unread", Source(api.FmtBrace, "[", usual, api.Doc{Dialect: api.Dialect{Sep: 1}}, api.Value{}), "W1/read")
	expect(t, "unread", Source(api.FmtBrace, "[", usual, api.Doc{Tree: api.Node{Tail: "x"}}, api.Value{}), "W1/read")
	expect(t, "unread", Source(api.FmtBrace, "[", usual, api.Doc{}, v), "W1/read")
	expect(t, "options", Source(api.FmtBrace, "[]", api.Options{}, api.Doc{}, api.Value{}), "")
	expect(t, "format", Source(0, "[]", usual, doc(t, api.FmtBrace, "[]"), api.Value{}), "W1/read")
	cells := "a,b\n1,2\n"
	expect(t, "delim", Source(api.FmtDelim, cells, usual, doc(t, api.FmtDelim, cells), val(t, "[{a: 1, b: 2}]")), "")
}

// P60.2, example 2
func TestStream(t *testing.T) {
	usual := reader.Usual()
	l := event.Of(val(t, "[2]"))
	expect(t, "right", Stream(api.FmtBrace, "[2]", usual, l), "")
	expect(t, "example", Stream(api.FmtBrace, "[1]", usual, l), "W3/events")
	expect(t, "beginning", Stream(api.FmtBrace, "[2]", usual, l[:2]), "W3/events")
	expect(t, "none", Stream(api.FmtBrace, "null", usual, nil), "W3/events")
	expect(t, "order", Stream(api.FmtBrace, "{a: 1, b: 1}", usual, event.Of(val(t, "{b: 1, a: 1}"))), "W3/events")
	expect(t, "unread", Stream(api.FmtBrace, "[2,,", usual, l[:2]), "")
	expect(t, "unread", Stream(api.FmtBrace, "[2,,", usual, nil), "")
	expect(t, "unread", Stream(api.FmtBrace, "[2,,", usual, l), "W3/beginning")
	expect(t, "unread", Stream(api.FmtBrace, "[2,,", usual, l[1:]), "W3/beginning")
	expect(t, "options", Stream(api.FmtBrace, "[2]", api.Options{}, l), "W3/beginning")
	small := usual
	small.Limits.Depth = 2
	expect(t, "depth", Stream(api.FmtBrace, "[[]]", small, event.Of(val(t, "[[]]"))), "")
	expect(t, "depth", Stream(api.FmtBrace, "[[]]", small, event.Of(val(t, "[[[]]]"))), "W3/events W12/depth")
	expect(t, "depth", Stream(api.FmtBrace, "[[[]]]", small, event.Of(val(t, "[[[]]]"))), "W3/beginning")
}

// P60.3
func TestQuery(t *testing.T) {
	in := val(t, "[1, {a: 2, b: 3}]")
	for _, src := range []string{".", ".[]", "error(.[1])", ".[], .a", "def f: f; f", "empty"} {
		p := program(t, src)
		for _, fuel := range []int{-1, 0, 3, 1000} {
			out := qeval.Eval(p, in, fuel)
			expect(t, src, Query(p, in, fuel, out), "")
			wrong := out
			wrong.Steps++
			expect(t, src, Query(p, in, fuel, wrong), "W4/steps")
			wrong = out
			wrong.Err = api.ErrArg
			expect(t, src, Query(p, in, fuel, wrong), "W4/error")
			wrong = out
			wrong.Val = value.Int(7)
			expect(t, src, Query(p, in, fuel, wrong), "W4/error")
			wrong = out
			wrong.Out = append([]api.Value{{}}, out.Out...)
			expect(t, src, Query(p, in, fuel, wrong), "W4/outputs")
			wrong.Err, wrong.Steps = api.ErrArg, -1
			expect(t, src, Query(p, in, fuel, wrong), "W4/outputs W4/error W4/steps")
		}
	}
	p := program(t, ".[1]")
	out := qeval.Eval(p, in, 100)
	out.Out = []api.Value{val(t, "{b: 3, a: 2}")}
	expect(t, "order", Query(p, in, 100, out), "W4/outputs")
	p = program(t, "error({a: 1, b: 2})")
	out = qeval.Eval(p, in, 100)
	expect(t, "raised", Query(p, in, 100, out), "")
	out.Val = val(t, "{b: 2, a: 1}")
	expect(t, "raised", Query(p, in, 100, out), "W4/error")
	expect(t, "program", Query(api.Program{}, in, 100, qeval.Eval(api.Program{}, in, 100)), "")
	expect(t, "program", Query(api.Program{}, in, 100, api.Outcome{}), "W4/error")
}

// P60.4
func TestSchema(t *testing.T) {
	s, err := schema.Read(val(t, `{defs: {}, root: {map: [[["a", true, {kinds: ["string"]}], ["b", true, true]], true]}}`))
	if err != api.OK {
		t.Fatal(err)
	}
	at := func(text, key string) api.Failure {
		return api.Failure{Path: steps(t, text), Op: api.SMap, Key: key}
	}
	v := val(t, `{a: 1, c: [0]}`)
	list := func(l ...api.Failure) []api.Failure { return l }
	for _, test := range []struct {
		ok   bool
		l    []api.Failure
		want string
	}{
		{false, list(at(".", "b"), at(".a", "")), ""},
		{false, list(at(".a", ""), at(".a", "")), ""},
		{true, list(at(".", "b"), at(".a", "")), "W6/valid"},
		{false, nil, "W6/report"},
		{false, list(at(".", "b")), "W6/report"},
		{false, list(at(".", "b"), at(".b", "")), "W6/part"},
		{false, list(at(".", "b"), at(".", "a")), "W6/part"},
		{false, list(at(".", "b"), at(".a", "b")), "W6/part"},
		{false, list(at(".c", "b"), at(".a", "")), "W6/part"},
		{false, list(at(".c[0]", ""), at(".c", "")), ""},
		{false, list(at(".c[1]", ""), at(".d", "")), "W6/part"},
		{false, list(at(".", "\xff"), at(".", strings.Repeat("k", api.MaxKey+1))), ""},
		{false, list(api.Failure{Path: []api.Step{{Key: "\xff"}}}, at(".", "")), "W6/part"},
		{true, list(at(".x", "b")), "W6/valid W6/report W6/part"},
	} {
		expect(t, test.want, Schema(s, v, test.ok, test.l), test.want)
	}
	good := val(t, `{a: "", b: 1}`)
	expect(t, "good", Schema(s, good, true, nil), "")
	expect(t, "good", Schema(s, good, false, nil), "W6/valid")
	bad := api.Schemas{}
	expect(t, "schema", Schema(bad, good, false, nil), "")
	expect(t, "schema", Schema(bad, good, true, nil), "W6/schema")
	expect(t, "schema", Schema(bad, good, false, list(at(".", ""))), "W6/schema")
	expect(t, "value", Schema(s, api.Value{Kind: 9}, false, nil), "")
	expect(t, "value", Schema(s, api.Value{Kind: 9}, true, nil), "W6/schema")
	// Too many failures have no cost.
	none, err := schema.Read(val(t, "{defs: {}, root: {list: [0, null, false]}}"))
	if err != api.OK {
		t.Fatal(err)
	}
	long := api.Value{Kind: api.VList, List: make([]api.Value, api.MaxChanges+1)}
	if _, err := explain.Cost(none, long); err != api.ErrLimit {
		t.Error(err)
	}
	expect(t, "long", Schema(none, long, false, nil), "")
	expect(t, "long", Schema(none, long, false, list(at(".[0]", ""))), "")
	expect(t, "long", Schema(none, long, true, nil), "W6/valid")
}

// P60.5, example 3
func TestChange(t *testing.T) {
	usual := reader.Usual()
	src := "{a: 1, b: 2}"
	one, two, three := value.Int(1), value.Int(2), value.Int(3)
	replace := func(p string, from, to api.Value) api.Change {
		return api.Change{Op: api.ChReplace, Path: steps(t, p), Old: from, New: to}
	}
	l := []api.Change{replace(".a", one, three)}
	for _, test := range []struct {
		src  string
		l    []api.Change
		out  string
		want string
	}{
		{src, l, "{a: 3, b: 2}", ""},
		{src, l, "{a: 3.0, b: 2}", ""},
		{src, l, "{ a: 3, b: 2}", "W5/bytes"},
		{src, l, "{a: 3, b: 2 }", "W5/bytes"},
		{src, l, "{b: 2, a: 3}", "W5/bytes"},
		{src, l, "{a: , b: 2}", "W5/value"},
		{src, l, "{a: 4, b: 2}", "W5/value"},
		{src, l, "{a: 3", "W5/value W5/bytes"},
		{src, l, "", "W5/value W5/bytes"},
		{src, l, src, "W5/value"},
		{src, []api.Change{replace(".a", one, two), replace(".b", two, three)}, "{ b: 3, a: 2 }", ""},
		{src, nil, "{b: 2, a: 1}", ""},
		{src, nil, "{b: 2}", "W5/value"},
		{src, []api.Change{{Op: api.ChTest, Path: steps(t, ".a"), Old: one}}, "{b: 2, a: 1}", ""},
		{src, []api.Change{{Op: api.ChRemove, Path: steps(t, ".a"), Old: one}}, "{  b: 2}", ""},
		{src, []api.Change{replace(".a", two, three)}, "", ""},
		{src, []api.Change{replace(".a", two, three)}, src, "W5/patch"},
		{src, []api.Change{{Op: 9}}, "x", "W5/patch"},
		{"[", l, "", ""},
		{"[", l, "[]", "W5/read"},
		{"[1]", []api.Change{replace(".[0]", one, three)}, "[3]", ""},
		// The parts before and after the span may not overlap.
		{"[7, 7]", []api.Change{replace(".[0]", value.Int(7), three)}, "[3, 7]", ""},
		{"11", []api.Change{replace(".", value.Int(11), one)}, " 1", ""},
		{"/*aa*//*aa*/1", []api.Change{replace(".", one, two)}, "/*aa*//*aa*/", "W5/value"},
		{"/**/1/**/", []api.Change{replace(".", one, two)}, "/**/", "W5/value W5/bytes"},
	} {
		expect(t, test.src+" to "+test.out, Change(api.FmtBrace, test.src, test.l, usual, test.out), test.want)
	}
	expect(t, "options", Change(api.FmtBrace, src, l, api.Options{}, "x"), "W5/read")
	// Without a span there are no bytes to compare.
	expect(t, "alias", Change(api.FmtIndent, "a: &x {b: 1}\nc: *x\n", []api.Change{replace(".c.b", one, two)}, usual, "c: {b: 2}\na: {b: 1}\n"), "")
}

// P60.6
func TestConvert(t *testing.T) {
	usual, style := reader.Usual(), writer.Usual()
	loss := func(kind int, p string) api.Loss { return api.Loss{Kind: kind, Path: steps(t, p)} }
	null, shape := loss(api.LossNull, ".a"), loss(api.LossShape, ".")
	comment, alias := loss(api.LossComment, ".x"), loss(api.LossAlias, ".")
	list := func(l ...api.Loss) []api.Loss { return l }
	src := "{a: null, b: 1, c: [null]}"
	inner := loss(api.LossNull, ".c[0]")
	for _, test := range []struct {
		to   int
		src  string
		out  string
		l    []api.Loss
		want string
	}{
		{api.FmtTable, src, "b = 1\nc = [\"\"]\n", list(null, inner), ""},
		{api.FmtTable, src, "c = [\"\"]\nb = 1\n", list(comment, null, alias, inner, comment), ""},
		{api.FmtTable, src, "b = 1\nc = [\"\"]\n", list(inner, null), "W9/losses"},
		{api.FmtTable, src, "b = 1\nc = [\"\"]\n", list(null), "W9/losses"},
		{api.FmtTable, src, "b = 1\nc = [\"\"]\n", list(null, inner, inner), "W9/losses"},
		{api.FmtTable, src, "b = 1\nc = [\"\"]\n", list(null, loss(api.LossBytes, ".c[0]")), "W9/losses"},
		{api.FmtTable, src, "b = 1\nc = [\"\"]\n", list(null, loss(api.LossNull, ".c[1]")), "W9/losses"},
		{api.FmtTable, src, "b = 2\nc = [\"\"]\n", list(null, inner), "W9/value"},
		{api.FmtTable, src, "b = \n", nil, "W9/value W9/losses"},
		{api.FmtBrace, src, "{c: [null], a: null, b: 1}", nil, ""},
		{api.FmtBrace, src, "{c: [null], b: 1}", nil, "W9/value"},
		{api.FmtBrace, "[", "", nil, ""},
		{api.FmtBrace, "[", "", list(comment), "W9/read"},
		{api.FmtBrace, "[", " ", nil, "W9/read"},
		{9, "[]", "", nil, ""},
		{9, "[]", "[]", nil, "W9/read"},
		{api.FmtTable, "1", "value = 1\n", list(shape), ""},
	} {
		expect(t, test.src+" to "+test.out, Convert(api.FmtBrace, test.to, test.src, usual, style, test.out, test.l), test.want)
	}
	expect(t, "style", Convert(api.FmtBrace, api.FmtBrace, "[]", usual, api.Style{}, "", nil), "")
	expect(t, "style", Convert(api.FmtBrace, api.FmtBrace, "[]", usual, api.Style{}, "[]", nil), "W9/read")
	expect(t, "options", Convert(api.FmtBrace, api.FmtBrace, "[]", api.Options{}, style, "[]", nil), "W9/read")
	style.Dialect.Sep = ';'
	expect(t, "dialect", Convert(api.FmtBrace, api.FmtDelim, "[{a: 1, b: 2}]", usual, style, "a;b\n1;2\n", nil), "")
	expect(t, "dialect", Convert(api.FmtBrace, api.FmtDelim, "[{a: 1, b: 2}]", usual, style, "a,b\n1,2\n", nil), "W9/value")
}

// sources returns sources in all formats, some of which cannot be read.
func sources() map[int][]string {
	return map[int][]string{
		api.FmtBrace:  {"{a: 1, /* x */ b: [1, null, b\"AA==\"]} // y", "[1,,]", "7", "[[], {}, t\"10:00:00\"]", "", "\xff"},
		api.FmtIndent: {"a: &x [1, 2] # n\nb: *x\nc:\n  - 1\n  - d: null\n", "a:\n\tb", "- 1\n- 2\n", "a: 1\na: 2\n"},
		api.FmtTable:  {"a = 1 # n\n[b]\nc = [1, 2]\n[[d]]\ne = \"x\"\n", "a = ", "a = 1\na = 2\n"},
		api.FmtDelim:  {"a,b\n1,x\n,true\n", "a,a\n1,2\n", "a\n\"", "n\n2024-02-29\n"},
	}
}

// P60.7
func TestClean(t *testing.T) {
	usual, style := reader.Usual(), writer.Usual()
	for format, list := range sources() {
		for _, src := range list {
			d, _, _ := reader.Parse(format, src, usual)
			v, _, err := reader.Read(format, src, usual)
			expect(t, src, Source(format, src, usual, d, v), "")
			l := event.Of(v)
			if err != api.OK {
				l = nil
			}
			expect(t, src, Stream(format, src, usual, l), "")
			for to := range 6 {
				out, losses, _, _ := convert.Convert(format, to, src, usual, style)
				expect(t, src, Convert(format, to, src, usual, style, out, losses), "")
			}
			for _, p := range []string{".a", ".b", ".[0]", ".[0].a", ".b[1]"} {
				old, _ := qeval.Query(p+"?", v, 100)
				if len(old.Out) != 1 {
					continue
				}
				l := []api.Change{{Op: api.ChReplace, Path: steps(t, p), Old: old.Out[0], New: value.Int(9)}}
				out, _, err := edit.Apply(format, src, l, usual)
				if err == api.OK || out == "" && err != api.ErrSplit {
					expect(t, src+p+out, Change(format, src, l, usual, out), "")
				}
			}
			for _, root := range []string{"true", "false", "{list: [0, null, {kinds: [\"number\"]}]}", "{map: [[[\"z\", true, true]], {kinds: [\"number\"]}]}"} {
				s, err := schema.Read(val(t, "{defs: {}, root: "+root+"}"))
				if err != api.OK {
					t.Fatal(root)
				}
				ok, _ := validate.Valid(s, v)
				report, _ := explain.Explain(s, v)
				expect(t, src+root, Schema(s, v, ok, report), "")
			}
		}
	}
}
