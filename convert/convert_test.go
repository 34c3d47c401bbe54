package convert

import (
	"math/rand"
	"reflect"
	"strings"
	"testing"

	"datakit/access"
	"datakit/api"
	"datakit/brace"
	"datakit/limit"
	"datakit/path"
	"datakit/reader"
	"datakit/value"
	"datakit/writer"
)

func val(t *testing.T, src string) api.Value {
	t.Helper()
	v, _, err := brace.Read(src, limit.Usual())
	if err != api.OK {
		t.Fatal(src, err)
	}
	return v
}

func show(v api.Value) string {
	s, _ := brace.Inline(v)
	return s
}

func style(header, typed bool) api.Style {
	s := writer.Usual()
	s.Dialect.Header, s.Dialect.Typed = header, typed
	return s
}

func report(l []api.Loss) string {
	return strings.ReplaceAll(strings.TrimSuffix(Report(l), "\n"), "\n", ", ")
}

// P58.1
func TestDegrade(t *testing.T) {
	for _, test := range []struct {
		format        int
		header, typed bool
		v, want, lost string
	}{
		{api.FmtBrace, true, true, "{a: null}", "{a: null}", ""}, {api.FmtIndent, true, true, "[b\"AA==\"]", "[b\"AA==\"]", ""}, {api.FmtTable, true, true, "{a: null, b: [null, 1]}", `{b: ["", 1]}`, ".a null, .b[0] null"}, {api.FmtTable, true, true, "[1, null]", `{value: [1, ""]}`, ". shape, .[1] null"}, {api.FmtTable, true, true, "null", "{}", ". shape, . null"}, {api.FmtTable, true, true, "{a: {b: b\"AQI=\", c: [{d: null}]}}", `{a: {b: "AQI=", c: [{}]}}`, ".a.b bytes, .a.c[0].d null"}, {api.FmtTable, true, true, "b\"AA==\"", `{value: "AA=="}`, ". shape, . bytes"},
		{api.FmtDelim, true, true, "[{a: 1}, {b: [2]}, 3]", `[{a: 1, b: null, value: null}, {a: null, b: "[2]", value: null}, {a: null, b: null, value: 3}]`, ".[2] shape, .[0] shape, .[1] shape, .[1].b nest"}, {api.FmtDelim, true, true, "[]", "[]", ""}, {api.FmtDelim, true, true, "{a: 1, b: {c: 2}}", `[{a: 1, b: "{\"c\":2}"}]`, ". shape, .b nest"}, {api.FmtDelim, true, true, "7", "[{value: 7}]", ". shape, . shape"}, {api.FmtDelim, false, true, "7", "[[7]]", ". shape, . shape"}, {api.FmtDelim, false, true, "[[1, 2], [], 3]", "[[1, 2], [null, null], [3, null]]", ".[2] shape, .[1] shape"}, {api.FmtDelim, false, true, "[[]]", "[[null]]", ".[0] shape"}, {api.FmtDelim, true, true, "[{}]", "[{value: null}]", ".[0] shape"}, {api.FmtDelim, true, true, "[{b: 1, a: 2}, {a: 3, b: 4}]", "[{b: 1, a: 2}, {b: 4, a: 3}]", ""}, {api.FmtDelim, false, false, "[[null, true, 1.50, t\"10:00:00\", \"x\", b\"AA==\", []], []]", `[["", "true", "1.5", "10:00:00", "x", "AA==", "[]"], ["", "", "", "", "", "", ""]]`, ".[0][0] null, .[0][1] number, .[0][2] number, .[0][3] time, .[0][5] bytes, .[0][6] nest, .[1] shape"}, {api.FmtDelim, false, true, "[[t\"10:00:00\", null]]", "[[t\"10:00:00\", null]]", ""}, {api.FmtDelim, false, true, "[b\"AA==\"]", `[["AA=="]]`, ".[0] shape, .[0] bytes"},
	} {
		s := style(test.header, test.typed)
		v := val(t, test.v)
		got, l, err := Degrade(test.format, v, s)
		want := val(t, test.want)
		if err != api.OK || !value.Same(got, want) || report(l) != test.lost {
			t.Errorf("%s: %s, %s, %v", test.v, show(got), report(l), err)
		}
		if !reflect.DeepEqual(Losses(test.format, v, s), l) || Exact(test.format, v, s) != (test.lost == "") || !value.Same(v, val(t, test.v)) {
			t.Error(test.v)
		}
	}
	for _, test := range []struct {
		format int
		v      api.Value
		s      api.Style
		err    api.Errno
	}{{0, api.Value{Kind: 9}, writer.Usual(), api.ErrArg}, {5, value.Int(1), writer.Usual(), api.ErrArg}, {api.FmtBrace, value.Int(1), api.Style{}, api.ErrArg}, {api.FmtBrace, api.Value{Kind: 9}, writer.Usual(), api.ErrKind}, {api.FmtTable, value.Bytes(make([]byte, api.MaxText)), writer.Usual(), api.ErrSize}} {
		v, l, err := Degrade(test.format, test.v, test.s)
		if err != test.err || l != nil || !reflect.DeepEqual(v, api.Value{}) || Losses(test.format, test.v, test.s) != nil || Exact(test.format, test.v, test.s) {
			t.Error(err)
		}
	}
}

// P58.2, P58.3
func TestConvert(t *testing.T) {
	for _, test := range []struct {
		from, to        int
		src, want, lost string
	}{
		{api.FmtBrace, api.FmtIndent, "// x\n{a: [1] /* y */}", "a:\n  - 1\n", ". comment, . comment"}, {api.FmtIndent, api.FmtBrace, "a: &x [1]\nb: *x\nc:\n  - *x\n  - &y *x\n", "{\n  a: [\n    1\n  ],\n  b: [\n    1\n  ],\n  c: [\n    [\n      1\n    ],\n    [\n      1\n    ]\n  ]\n}\n", ".b alias, .c[0] alias, .c[1] alias"}, {api.FmtTable, api.FmtDelim, "a = 1\n[t]\n", "a,t\n1,{}\n", ". shape, .t nest"}, {api.FmtDelim, api.FmtTable, "a,b\n1,\n", "[[value]]\na = 1\n", ". shape, .[0].b null"}, {api.FmtBrace, api.FmtBrace, "[1,]", "[\n  1\n]\n", ""},
	} {
		got, l, pos, err := Convert(test.from, test.to, test.src, reader.Usual(), writer.Usual())
		if got != test.want || report(l) != test.lost || pos != (api.Pos{}) || err != api.OK {
			t.Errorf("%q: %q, %s, %v", test.src, got, report(l), err)
		}
	}
	for _, test := range []struct {
		from, to int
		src      string
		s        api.Style
		pos      api.Pos
		err      api.Errno
	}{{api.FmtBrace, 9, "[", writer.Usual(), api.Pos{}, api.ErrArg}, {api.FmtBrace, api.FmtBrace, "[", api.Style{}, api.Pos{}, api.ErrArg}, {9, api.FmtBrace, "[", writer.Usual(), api.Pos{}, api.ErrArg}, {api.FmtBrace, api.FmtBrace, "[", writer.Usual(), api.Pos{Line: 1, Col: 2}, api.ErrTruncated}, {api.FmtBrace, api.FmtTable, "b\"" + strings.Repeat("AAAA", api.MaxText/3) + "\"", writer.Usual(), api.Pos{}, api.ErrSize}} {
		got, l, pos, err := Convert(test.from, test.to, test.src, reader.Usual(), test.s)
		if got != "" || l != nil || pos != test.pos || err != test.err {
			t.Errorf("%.20q: %v, %v", test.src, pos, err)
		}
	}
	var all []api.Loss
	for kind := 0; kind <= 9; kind++ {
		all = append(all, api.Loss{Kind: kind, Path: []api.Step{path.Key("a"), path.At(0)}})
	}
	if got := report(all); got != ".a[0] ?, .a[0] comment, .a[0] time, .a[0] bytes, .a[0] null, .a[0] nest, .a[0] shape, .a[0] number, .a[0] alias, .a[0] ?" {
		t.Error(got)
	}
}

func random(r *rand.Rand, depth int) api.Value {
	k := r.Intn(9)
	if depth == 0 {
		k = r.Intn(6)
	}
	switch k {
	case 0:
		return value.Null()
	case 1:
		return value.Bool(true)
	case 2:
		return value.Int(r.Intn(9))
	case 3:
		return value.Text([]string{"a", "", "1"}[r.Intn(3)])
	case 4:
		return value.Bytes([]byte{1})
	case 5:
		return value.Time(api.Time{Kind: api.TimeDate})
	case 6, 7:
		v := api.Value{Kind: api.VList}
		for range r.Intn(4) {
			v.List = append(v.List, random(r, depth-1))
		}
		return v
	}
	v := api.Value{Kind: api.VMap}
	for _, i := range r.Perm(4)[:r.Intn(4)] {
		v.Fields = append(v.Fields, api.Field{Key: []string{"a", "b", "value", "x y"}[i], Val: random(r, depth-1)})
	}
	return v
}

// P58.4 to P58.6, W9
func TestConsequences(t *testing.T) {
	r := rand.New(rand.NewSource(1))
	for range 6000 {
		v := random(r, 3)
		from, to := 1+r.Intn(2), 1+r.Intn(4)
		s := style(r.Intn(2) == 0, r.Intn(2) == 0)
		s.Width = r.Intn(40)
		src, _ := writer.Write(from, v, s)
		degraded, losses, err := Degrade(to, v, s)
		if err != api.OK {
			t.Fatal(err)
		}
		out, l, _, err := Convert(from, to, src, reader.Usual(), s)
		if err != api.OK || !reflect.DeepEqual(l, losses) {
			t.Fatal(show(v), to, report(l), report(losses), err)
		}
		o := reader.Usual()
		o.Dialect = s.Dialect
		back, _, err := reader.Read(to, out, o)
		if err != api.OK || !value.Equal(back, degraded) || len(l) == 0 && !value.Equal(back, v) {
			t.Fatal(show(v), out)
		}
		for _, p := range access.Leaves(v) {
			told := false
			for _, loss := range losses {
				told = told || path.Under(p, loss.Path)
			}
			x, err := access.Get(degraded, p)
			if y, _ := access.Get(v, p); !told && (err != api.OK || !value.Same(x, y)) {
				t.Fatal(show(v), show(degraded), path.Text(p))
			}
		}
		if Exact(from, v, s) && Exact(to, v, s) {
			again, _, _, err := Convert(to, from, out, o, s)
			if w, _, _ := reader.Read(from, again, reader.Usual()); err != api.OK || !value.Equal(w, v) {
				t.Fatal(show(v), again)
			}
		}
	}
}
