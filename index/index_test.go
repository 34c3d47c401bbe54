package index

import (
	"math/rand"
	"reflect"
	"slices"
	"strings"
	"testing"

	"datakit/access"
	"datakit/api"
	"datakit/brace"
	"datakit/delim"
	"datakit/grid"
	"datakit/limit"
	"datakit/path"
	"datakit/value"
)

var usual = api.Options{Limits: limit.Usual(), Dialect: delim.Usual()}

func steps(t *testing.T, text string) []api.Step {
	t.Helper()
	p, err := path.Parse(text)
	if err != api.OK {
		t.Fatal(text)
	}
	return p
}

const source = "{a: [1, 2], b: 3}"

// P34.1, P34.3, P34.5
func TestBuild(t *testing.T) {
	x, at, err := Build(api.FmtBrace, source, 1, usual)
	want := api.Index{Format: api.FmtBrace, Size: 17, Depth: 1, Entries: []api.Entry{{Path: steps(t, ".a"), At: api.Span{From: 4, To: 10}}, {Path: steps(t, ".b"), At: api.Span{From: 15, To: 16}}}}
	if err != api.OK || at != 0 || !reflect.DeepEqual(x, want) {
		t.Error(x, err)
	}
	if text, err := Text(x); text != "index brace 17 1\n4 10 .a\n15 16 .b\n" || err != api.OK {
		t.Error(text)
	}
	if s, ok := Lookup(x, steps(t, ".b")); !ok || s != (api.Span{From: 15, To: 16}) {
		t.Error(s)
	}
	for _, p := range []string{".", ".c", ".a[0]"} {
		if s, ok := Lookup(x, steps(t, p)); ok || s != (api.Span{}) {
			t.Error(p)
		}
	}
	if e, ok := Near(x, steps(t, ".a[7].x")); !ok || !path.Equal(e.Path, steps(t, ".a")) || e.At.From != 4 {
		t.Error(e)
	}
	if e, ok := Near(x, steps(t, ".c")); ok || !reflect.DeepEqual(e, api.Entry{}) {
		t.Error(e)
	}
	x, _, _ = Build(api.FmtDelim, "a,b\n1,2", 1, usual)
	want = api.Index{Format: api.FmtDelim, Size: 7, Depth: 1, Columns: []string{"a", "b"}, Entries: []api.Entry{{Path: steps(t, ".[0]"), At: api.Span{From: 4, To: 7}}}}
	if !reflect.DeepEqual(x, want) {
		t.Error(x)
	}
	x, _, _ = Build(api.FmtDelim, "\"a\",b\r\n1,\"2\"\r\n", 48, usual)
	if text, _ := Text(x); text != "index delim 14 48\ncolumn \"a\"\ncolumn \"b\"\n7 12 .[0]\n7 8 .[0].a\n9 12 .[0].b\n" {
		t.Error(text)
	}
	for _, test := range []struct {
		format, depth int
		src           string
		at            int
		err           api.Errno
	}{{api.FmtIndent, 1, "1", 0, api.ErrArg}, {api.FmtTable, 1, "", 0, api.ErrArg}, {0, 1, "", 0, api.ErrArg}, {api.FmtBrace, 0, "1", 0, api.ErrArg}, {api.FmtBrace, 49, "1", 0, api.ErrArg}, {api.FmtBrace, 1, "[1 2]", 3, api.ErrSyntax}, {api.FmtDelim, 1, "a\"", 1, api.ErrSyntax}} {
		if x, at, err := Build(test.format, test.src, test.depth, usual); at != test.at || err != test.err || !reflect.DeepEqual(x, api.Index{}) {
			t.Error(test, at, err)
		}
	}
	if _, _, err := Build(api.FmtBrace, "1", 1, api.Options{}); err != api.ErrArg {
		t.Error(err)
	}
}

// P34.2, P34.5
func TestCheck(t *testing.T) {
	one := func(text string, from, to int) api.Entry {
		p, _ := path.Parse(text)
		return api.Entry{Path: p, At: api.Span{From: from, To: to}}
	}
	base := api.Index{Format: api.FmtDelim, Size: 9, Depth: 3}
	for i, test := range []struct {
		change func(x *api.Index)
		err    api.Errno
	}{
		{func(x *api.Index) {}, api.OK}, {func(x *api.Index) { x.Format = api.FmtTable }, api.ErrArg}, {func(x *api.Index) { x.Size = -1 }, api.ErrArg}, {func(x *api.Index) { x.Size = api.MaxInput + 1 }, api.ErrArg}, {func(x *api.Index) { x.Depth = 0 }, api.ErrArg}, {func(x *api.Index) { x.Depth = 49 }, api.ErrArg}, {func(x *api.Index) { x.Columns = []string{"a"}; x.Format = api.FmtBrace }, api.ErrArg}, {func(x *api.Index) { x.Columns = []string{"\xff"} }, api.ErrArg}, {func(x *api.Index) { x.Columns = []string{"a", "a", strings.Repeat("k", 1025)} }, api.ErrArg}, {func(x *api.Index) { x.Columns = []string{"a", "a"} }, api.ErrExists}, {func(x *api.Index) { x.Columns = []string{"a", ""} }, api.OK},
		{func(x *api.Index) { x.Entries = []api.Entry{one(".a", 0, 9), one(".b", 0, 0)} }, api.OK}, {func(x *api.Index) { x.Entries = []api.Entry{{}} }, api.ErrPath}, {func(x *api.Index) {
			x.Entries = []api.Entry{{Path: []api.Step{path.At(-1)}, At: api.Span{From: 9, To: 3}}}
		}, api.ErrPath}, {func(x *api.Index) { x.Entries = []api.Entry{one(".a.b.c", 0, 1)} }, api.ErrPath}, {func(x *api.Index) { x.Format = api.FmtBrace; x.Entries = []api.Entry{one(".a.b.c", 0, 1)} }, api.OK}, {func(x *api.Index) { x.Depth = 1; x.Entries = []api.Entry{one(".a.b", 0, 1)} }, api.ErrPath},
		{func(x *api.Index) { x.Entries = []api.Entry{one(".a", 3, 2)} }, api.ErrRange}, {func(x *api.Index) { x.Entries = []api.Entry{one(".a", 3, 10)} }, api.ErrRange}, {func(x *api.Index) { x.Entries = []api.Entry{one(".a", -1, 2)} }, api.ErrRange}, {func(x *api.Index) { x.Entries = []api.Entry{one(".a", 3, 4), one(".a", 2, 4)} }, api.ErrRange}, {func(x *api.Index) { x.Entries = []api.Entry{one(".a", 3, 4), one(".a", 3, 4), {}} }, api.ErrExists},
	} {
		x := base
		test.change(&x)
		if err := Check(x); err != test.err {
			t.Error(i, err)
		}
		text, err := Text(x)
		if err != test.err {
			t.Error(i, err)
		}
		if back, e := Parse(text); err == api.OK && (e != api.OK || !reflect.DeepEqual(back, x)) {
			t.Error(i, back, e)
		}
		if _, err := Read(x, nil, func(api.Span) string { return "" }, usual); (err == api.ErrArg) != (test.err != api.OK) && x.Format != api.FmtBrace {
			t.Error(i, err)
		}
	}
	x := base
	x.Columns = []string{"a\nb \"é"}
	x.Entries = []api.Entry{{Path: []api.Step{path.Key("x y\n")}, At: api.Span{From: 1, To: 2}}}
	text, _ := Text(x)
	if back, err := Parse(text); err != api.OK || !reflect.DeepEqual(back, x) || strings.Count(text, "\n") != 3 {
		t.Errorf("%q", text)
	}
	for _, s := range []string{"", "index", "index brace 17 1", "index brace 017 1\n", "index table 1 1\n", "index brace 1 1 \n", "index brace 1 1\n\n", "index brace 1 1\n0 1 a\n", "index brace 1 1\n0 1 .a", "index brace 1 1\n0 2 .a\n", "index brace 1 1\ncolumn \"a\"\n", "index delim 1 1\ncolumn 1\n", "index delim 1 1\n0 1 .a\ncolumn \"a\"\n", "index delim 1 1\ncolumn \"a\" \n", "index delim 1 1\n+0 1 .a\n", "index delim 99999999999999999999 1\n"} {
		if x, err := Parse(s); err != api.ErrSyntax || !reflect.DeepEqual(x, api.Index{}) {
			t.Errorf("Parse(%q): %v", s, err)
		}
	}
}

// P34.4
func TestRead(t *testing.T) {
	x, _, _ := Build(api.FmtBrace, source, 1, usual)
	for _, test := range []struct {
		p    string
		span api.Span
		want string
		err  api.Errno
	}{{".a[1]", api.Span{From: 4, To: 10}, "2", 0}, {".c", api.Span{From: 0, To: 17}, "", api.ErrNotFound}, {".", api.Span{From: 0, To: 17}, source, 0}, {".a.x", api.Span{From: 4, To: 10}, "", api.ErrKind}, {".b", api.Span{From: 15, To: 16}, "3", 0}} {
		calls := 0
		v, err := Read(x, steps(t, test.p), func(s api.Span) string {
			calls++
			if s != test.span {
				t.Error(test.p, s)
			}
			return source[s.From:s.To]
		}, usual)
		want, _, _ := brace.Read(test.want, limit.Usual())
		if err != test.err || calls != 1 || !value.Same(v, want) {
			t.Error(test, v, err)
		}
	}
	if _, err := Read(x, nil, func(api.Span) string { return "[" }, usual); err != api.ErrTruncated {
		t.Error(err)
	}
	cut := func(api.Span) string { t.Error("called"); return "" }
	for _, test := range []struct {
		x api.Index
		p []api.Step
		o api.Options
	}{{api.Index{}, nil, usual}, {x, []api.Step{path.At(-1)}, usual}, {x, nil, api.Options{}}, {api.Index{Format: api.FmtDelim, Depth: 1}, nil, api.Options{Limits: limit.Usual()}}} {
		if _, err := Read(test.x, test.p, cut, test.o); err != api.ErrArg {
			t.Error(err)
		}
	}
	if _, err := Read(x, nil, nil, usual); err != api.ErrArg {
		t.Error(err)
	}
	d := api.Index{Format: api.FmtDelim, Size: 9, Depth: 2, Columns: []string{"a", "b"}, Entries: []api.Entry{{Path: steps(t, ".[0]"), At: api.Span{From: 1, To: 2}}, {Path: steps(t, ".[0].a"), At: api.Span{From: 1, To: 2}}}}
	for _, test := range []struct {
		p, text, want string
		err           api.Errno
	}{{".[0]", "1,x", `{a: 1, b: "x"}`, 0}, {".[0].b", "1,x", `"x"`, 0}, {".[0].a", "1", "1", 0}, {".[0].a", "", "null", 0}, {".[0].a", "1,2", "", api.ErrSyntax}, {".[0]", "1", "", api.ErrSyntax}, {".[0]", "", "", api.ErrSyntax}, {".[0]", "1,2\n3,4", "", api.ErrSyntax}, {".[0]", "\"", "", api.ErrTruncated}, {".[0].c", "1,2", "", api.ErrNotFound}, {".[0].a.b", "1", "", api.ErrKind}, {".", "a,b\n1,2", "[{a: 1, b: 2}]", 0}, {".[0]", "1,2\n", "{a: 1, b: 2}", 0}} {
		v, err := Read(d, steps(t, test.p), func(api.Span) string { return test.text }, usual)
		want, _, _ := brace.Read(test.want, limit.Usual())
		if err != test.err || !value.Same(v, want) {
			t.Error(test, v, err)
		}
	}
}

func random(r *rand.Rand, depth int) api.Value {
	if depth == 0 || r.Intn(3) == 0 {
		return value.Int(r.Intn(9))
	}
	v := api.Value{Kind: api.VList + r.Intn(2)}
	for i := range r.Intn(4) {
		x := random(r, depth-1)
		v.List = append(v.List, x)
		if v.Kind == api.VMap {
			v.List = nil
			v.Fields = append(v.Fields, api.Field{Key: []string{"a", "b c", "é", "\n"}[i], Val: x})
		}
	}
	return v
}

// P34.6, W11
func TestSame(t *testing.T) {
	r := rand.New(rand.NewSource(1))
	for range 1000 {
		v := random(r, 4)
		format := api.FmtBrace
		src, _ := brace.Write(v, api.Style{Indent: 2, Width: r.Intn(40)})
		o := usual
		o.Dialect.Header = r.Intn(2) == 0
		if r.Intn(2) == 0 {
			format = api.FmtDelim
			src = []string{"", "a,b\n1,\"x\"\"y\"\n\"\",2\n", "a\n\n1\r\n", "a,b", "x\n"}[r.Intn(5)]
			v, _, _ = grid.Read(src, o.Dialect, o.Limits)
		}
		depth := 1 + r.Intn(4)
		x, _, err := Build(format, src, depth, o)
		if err != api.OK || Check(x) != api.OK {
			t.Fatal(src, err)
		}
		text, _ := Text(x)
		if back, err := Parse(text); err != api.OK || !reflect.DeepEqual(back, x) {
			t.Fatal(text)
		}
		var listed [][]api.Step
		for _, p := range access.Paths(v) {
			if len(p) > 0 && len(p) <= depth {
				listed = append(listed, p)
			}
		}
		if !slices.EqualFunc(listed, x.Entries, func(p []api.Step, e api.Entry) bool { return path.Equal(p, e.Path) }) {
			t.Fatal(text)
		}
		paths := append(access.Paths(v), steps(t, ".a"), steps(t, ".[9]"), steps(t, ".[0][0].x"))
		for _, p := range paths {
			want, err := access.Get(v, p)
			got, err2 := Read(x, p, func(s api.Span) string { return src[s.From:s.To] }, o)
			if err != err2 || !value.Same(got, want) {
				t.Fatal(src, p, err, err2)
			}
		}
	}
}
