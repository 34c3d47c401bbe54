package writer

import (
	"math/rand"
	"testing"

	"datakit/api"
	"datakit/brace"
	"datakit/limit"
	"datakit/reader"
	"datakit/value"
)

func want(t *testing.T, src string) api.Value {
	t.Helper()
	v, _, err := brace.Read(src, limit.Usual())
	if err != api.OK {
		t.Fatal(src, err)
	}
	return v
}

// P30.1
func TestStyles(t *testing.T) {
	if u := Usual(); u != (api.Style{Indent: 2, Dialect: reader.Usual().Dialect}) || !Valid(u) {
		t.Error(u)
	}
	for i, change := range []func(*api.Style){func(s *api.Style) { s.Indent = 0 }, func(s *api.Style) { s.Indent = 9 }, func(s *api.Style) { s.Width = -1 }, func(s *api.Style) { s.Width = 1001 }, func(s *api.Style) { s.Dialect.Sep = 'a' }} {
		s := Usual()
		change(&s)
		if Valid(s) {
			t.Error(i)
		}
		for format := range 5 {
			if _, err := Write(format, api.Value{Kind: 9}, s); err != api.ErrArg {
				t.Error(err)
			}
			if _, err := Inline(format, api.Value{Kind: 9}, s); err != api.ErrArg {
				t.Error(err)
			}
		}
	}
	s := Usual()
	s.Indent, s.Width, s.Sort, s.Dialect.Header = 8, 1000, true, false
	if !Valid(s) {
		t.Error(s)
	}
}

// P30.2 to P30.4
func TestWrite(t *testing.T) {
	sorted := Usual()
	sorted.Sort = true
	for _, test := range []struct {
		format int
		v      string
		s      api.Style
		text   string
		err    api.Errno
	}{
		{api.FmtTable, "{b: 1, a: null}", Usual(), "", api.ErrLoss}, {api.FmtBrace, "{b: 1, a: null}", Usual(), "{\n  b: 1,\n  a: null\n}\n", 0}, {api.FmtBrace, "{b: 1, a: null}", sorted, "{\n  a: null,\n  b: 1\n}\n", 0}, {api.FmtIndent, "{b: 1, a: null}", sorted, "a: null\nb: 1\n", 0}, {api.FmtTable, "{b: 1, a: 2}", sorted, "a = 2\nb = 1\n", 0}, {api.FmtDelim, "[{b: 1, a: 2}]", sorted, "a,b\n2,1\n", 0}, {api.FmtDelim, "[{b: 1, a: 2}]", Usual(), "b,a\n1,2\n", 0}, {api.FmtDelim, "{a: 1}", Usual(), "", api.ErrLoss}, {api.FmtTable, "[]", Usual(), "", api.ErrLoss},
		{0, "1", Usual(), "", api.ErrArg}, {5, "1", Usual(), "", api.ErrArg},
	} {
		got, err := Write(test.format, want(t, test.v), test.s)
		if got != test.text || err != test.err || Able(test.format, want(t, test.v), test.s) != test.err {
			t.Errorf("Write(%d, %s) = %q, %v", test.format, test.v, got, err)
		}
	}
	for _, test := range []struct {
		format int
		v      string
		text   string
		err    api.Errno
	}{{api.FmtBrace, `[1, "x", {b: 1, a: 2}]`, `[1, "x", {b: 1, a: 2}]`, 0}, {api.FmtIndent, `[1, "x"]`, "[1, x]", 0}, {api.FmtTable, `[1, "x", {b: 1}]`, `[1, "x", {b = 1}]`, 0}, {api.FmtTable, "null", "", api.ErrLoss}, {api.FmtDelim, `"1"`, `"1"`, 0}, {api.FmtDelim, "[]", "", api.ErrLoss}, {9, "1", "", api.ErrArg}} {
		if got, err := Inline(test.format, want(t, test.v), sorted); got != test.text || err != test.err {
			t.Errorf("Inline(%d, %s) = %q, %v", test.format, test.v, got, err)
		}
	}
	for format := 1; format <= 4; format++ {
		if _, err := Write(format, value.Text("\xff"), Usual()); err != api.ErrText {
			t.Error(err)
		}
		if _, err := Inline(format, api.Value{Kind: 9}, Usual()); err != api.ErrKind {
			t.Error(err)
		}
		if err := Able(format, api.Value{Kind: 9}, Usual()); err != api.ErrKind {
			t.Error(err)
		}
	}
}

func random(r *rand.Rand, depth int) api.Value {
	k := r.Intn(7)
	if depth == 0 {
		k = r.Intn(4)
	}
	switch k {
	case 0:
		return value.Null()
	case 1:
		return value.Int(r.Intn(9))
	case 2, 3:
		return value.Text([]string{"a", "", "1", "x\ny"}[r.Intn(4)])
	case 4:
		v := api.Value{Kind: api.VList}
		for range r.Intn(3) {
			v.List = append(v.List, random(r, depth-1))
		}
		return v
	}
	v := api.Value{Kind: api.VMap}
	for _, i := range r.Perm(3)[:r.Intn(4)] {
		v.Fields = append(v.Fields, api.Field{Key: []string{"a", "b c", "z"}[i], Val: random(r, depth-1)})
	}
	return v
}

// P30.5, P30.6, W2
func TestRoundTrip(t *testing.T) {
	r := rand.New(rand.NewSource(1))
	written := map[int]int{}
	for range 3000 {
		v := random(r, 3)
		if r.Intn(3) == 0 {
			v = value.List(v, v)
		}
		for format := 1; format <= 4; format++ {
			s := api.Style{Indent: 1 + r.Intn(8), Width: r.Intn(30), Sort: r.Intn(2) == 0, Dialect: api.Dialect{Sep: ';', Quote: '\'', Header: r.Intn(2) == 0, Typed: true}}
			src, err := Write(format, v, s)
			if err != api.OK {
				continue
			}
			written[format]++
			o := reader.Usual()
			o.Dialect = s.Dialect
			back, _, err := reader.Read(format, src, o)
			if err != api.OK || !value.Equal(back, v) {
				t.Fatalf("%d %q", format, src)
			}
			if !s.Sort && format <= api.FmtIndent && !value.Same(back, v) {
				t.Fatalf("%d %q", format, src)
			}
			if other, _ := Write(format, value.Sorted(v), s); s.Sort && other != src {
				t.Fatalf("%d %q %q", format, src, other)
			}
		}
	}
	if len(written) != 4 {
		t.Error(written)
	}
}
