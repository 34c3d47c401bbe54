package reader

import (
	"reflect"
	"slices"
	"strings"
	"testing"

	"datakit/api"
	"datakit/brace"
	"datakit/limit"
	"datakit/path"
	"datakit/value"
)

// P29.1
func TestNames(t *testing.T) {
	for format, name := range map[int]string{1: "brace", 2: "indent", 3: "table", 4: "delim"} {
		if got, ok := Named(name); Name(format) != name || got != format || !ok {
			t.Error(name)
		}
	}
	for _, format := range []int{0, 5, -1} {
		if Name(format) != "" {
			t.Error(format)
		}
	}
	for _, name := range []string{"", "Brace", "json"} {
		if got, ok := Named(name); got != 0 || ok {
			t.Error(name)
		}
	}
	if o := Usual(); o.Limits != limit.Usual() || o.Dialect != (api.Dialect{Sep: ',', Quote: '"', Header: true, Typed: true}) {
		t.Error(o)
	}
}

var sources = map[int]string{api.FmtBrace: "// é\n{a: [1, 2]}\n", api.FmtIndent: "# é\na: &x [1, 2]\nb: *x\n", api.FmtTable: "# é\na = [1, 2]\n", api.FmtDelim: "a,b\n1,\"é\"\n"}

// P29.2 to P29.7, P29.9
func TestFormats(t *testing.T) {
	values := map[int]string{api.FmtBrace: "{a: [1, 2]}", api.FmtIndent: "{a: [1, 2], b: [1, 2]}", api.FmtTable: "{a: [1, 2]}", api.FmtDelim: `[{a: 1, b: "é"}]`}
	places := map[int][]int{api.FmtBrace: {0, 0, 2, 1, 0}, api.FmtIndent: {0, 0, 2, 0, 1, 0}, api.FmtTable: {0, 2, 1, 0}, api.FmtDelim: {1, 1, 0}}
	paths := map[int]string{api.FmtBrace: ".a[1]", api.FmtIndent: ".a[1]", api.FmtTable: ".a[1]", api.FmtDelim: ".[0].b"}
	texts := map[int]string{api.FmtBrace: "2", api.FmtIndent: "2", api.FmtTable: "2", api.FmtDelim: "\"é\""}
	for format, src := range sources {
		d, pos, err := Parse(format, src, Usual())
		if err != api.OK || pos != (api.Pos{}) || d.Format != format || Print(d) != src {
			t.Fatal(format, err)
		}
		if (d.Dialect == Usual().Dialect) != (format == api.FmtDelim) || format != api.FmtDelim && d.Dialect != (api.Dialect{}) {
			t.Error(d.Dialect)
		}
		want, _, _ := brace.Read(values[format], limit.Usual())
		v, err := Value(d, limit.Usual())
		w, pos, err2 := Read(format, src, Usual())
		if err != api.OK || err2 != api.OK || pos != (api.Pos{}) || !value.Same(v, want) || !value.Same(w, want) {
			t.Error(v, w)
		}
		p, _ := path.Parse(paths[format])
		indices, err := Locate(d, p)
		if err != api.OK || !slices.Equal(indices, places[format]) {
			t.Error(format, indices, err)
		}
		span, err := Span(d, p)
		if err != api.OK || src[span.From:span.To] != texts[format] {
			t.Error(format, span, err)
		}
		bad := []api.Step{path.Key("x"), path.Key("y")}
		_, err = Locate(d, bad)
		if span, err2 := Span(d, bad); err == api.OK || err2 != err || span != (api.Span{}) {
			t.Error(format, err, err2)
		}
		comments := Comments(d)
		if format == api.FmtDelim && len(comments) != 0 || format != api.FmtDelim && (len(comments) != 1 || !strings.HasSuffix(comments[0], " é")) {
			t.Error(comments)
		}
	}
	if _, err := Span(api.Doc{}, nil); err != api.ErrArg {
		t.Error(err)
	}
}

// P29.2 to P29.4: errors
func TestErrors(t *testing.T) {
	small := Usual()
	small.Limits.Nodes = 2
	bad := Usual()
	bad.Limits.Depth = 0
	dialect := Usual()
	dialect.Dialect.Sep = 'x'
	for _, test := range []struct {
		format int
		src    string
		o      api.Options
		pos    api.Pos
		err    api.Errno
	}{
		{api.FmtBrace, "[1,,]", Usual(), api.Pos{Line: 1, Col: 4}, api.ErrSyntax}, {api.FmtBrace, "[\n \"é\" 1", Usual(), api.Pos{Line: 2, Col: 6}, api.ErrSyntax}, {api.FmtBrace, "[\n\"é", Usual(), api.Pos{Line: 2, Col: 3}, api.ErrTruncated}, {api.FmtBrace, "é\n \xff", Usual(), api.Pos{Line: 2, Col: 2}, api.ErrText}, {api.FmtBrace, strings.Repeat("\xff", api.MaxInput+1), Usual(), api.Pos{Line: 1, Col: 1}, api.ErrSize},
		{api.FmtIndent, "a:\n- 1", Usual(), api.Pos{Line: 2, Col: 1}, api.ErrSyntax}, {api.FmtTable, "a = é", Usual(), api.Pos{Line: 1, Col: 5}, api.ErrSyntax}, {api.FmtDelim, "a,b\n1", Usual(), api.Pos{Line: 2, Col: 2}, api.ErrSize}, {api.FmtBrace, "[1, 2]", small, api.Pos{Line: 1, Col: 5}, api.ErrSize},
		{0, "1", Usual(), api.Pos{}, api.ErrArg}, {5, "1", Usual(), api.Pos{}, api.ErrArg}, {api.FmtBrace, "1", bad, api.Pos{}, api.ErrArg}, {api.FmtDelim, "\xff", dialect, api.Pos{}, api.ErrArg}, {api.FmtBrace, "1", dialect, api.Pos{}, api.OK}, {api.FmtIndent, "\xff", bad, api.Pos{}, api.ErrArg},
	} {
		d, pos, err := Parse(test.format, test.src, test.o)
		if pos != test.pos || err != test.err || err != api.OK && !reflect.DeepEqual(d, api.Doc{}) {
			t.Errorf("Parse(%d, %.20q): %v, %v", test.format, test.src, pos, err)
		}
		v, pos, err := Read(test.format, test.src, test.o)
		if pos != test.pos || err != test.err || err != api.OK && !reflect.DeepEqual(v, api.Value{}) {
			t.Errorf("Read(%d, %.20q): %v, %v", test.format, test.src, pos, err)
		}
	}
	if _, err := Value(api.Doc{Format: 7}, limit.Usual()); err != api.ErrArg {
		t.Error(err)
	}
	d, _, _ := Parse(api.FmtIndent, "[1]", Usual())
	if _, err := Value(d, small.Limits); err != api.OK {
		t.Error(err)
	}
	small.Limits.Depth = 1
	if _, err := Value(d, small.Limits); err != api.ErrDepth {
		t.Error(err)
	}
	d, _, _ = Parse(api.FmtBrace, "[1]", Usual())
	if _, err := Value(d, api.Limits{}); err != api.OK {
		t.Error(err)
	}
}

// P29.8
func TestDetect(t *testing.T) {
	for src, want := range map[string]int{"a = 1\n": api.FmtTable, "a: 1": api.FmtIndent, "{\"a\": 1}": api.FmtBrace, "": api.FmtTable, "1": api.FmtBrace, "- 1": api.FmtIndent, "a: b: c,d\n": api.FmtDelim, "a,b\n1,2": api.FmtDelim, "a\"b\n\"c": 0, "\xff": 0} {
		if got, ok := Detect(src, Usual()); got != want || ok != (want != 0) {
			t.Errorf("Detect(%q) = %d", src, got)
		}
	}
	if got, ok := Detect("1", api.Options{}); got != 0 || ok {
		t.Error(got)
	}
}
