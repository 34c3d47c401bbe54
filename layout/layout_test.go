package layout

import (
	"math/rand"
	"slices"
	"strings"
	"testing"

	"datakit/api"
	"datakit/reader"
	"datakit/value"
	"datakit/writer"
)

var usual = reader.Usual()

func style(width int) api.Style {
	s := writer.Usual()
	s.Width = width
	return s
}

// P54.1, P54.2
func TestFormat(t *testing.T) {
	for _, test := range []struct {
		format    int
		width     int
		src, want string
	}{
		{api.FmtBrace, 0, "{ a:1, // one\nb: [ ] }", "{\n  a: 1, // one\n  b: []\n}\n"}, {api.FmtBrace, 20, "{ a:1, // one\nb: [ ] }", "{\n  a: 1, // one\n  b: []\n}\n"}, {api.FmtBrace, 20, "{ a:1,\nb: [ ] , }", "{a: 1, b: []}\n"}, {api.FmtBrace, 12, "{ a:1,\nb: [ ] , }", "{\n  a: 1,\n  b: []\n}\n"}, {api.FmtBrace, 0, "// x\n1 /*y*/ // z\n// w", "// x\n1 /*y*/ // z\n// w\n"}, {api.FmtBrace, 0, "[1 // a\n, // b\n2 /*c*/]", "[\n  1, // a\n  // b\n  2 /*c*/\n]\n"}, {api.FmtBrace, 0, "[ // a\n]", "[\n  // a\n]\n"}, {api.FmtBrace, 0, "{/*1*/a/*2*/:/*3*/1/*4*/,/*5*/}", "{\n  /*1*/\n  /*2*/\n  /*3*/\n  a: 1 /*4*/ /*5*/\n}\n"}, {api.FmtBrace, 9, "[[1,2],[3]]", "[\n  [1, 2],\n  [3]\n]\n"}, {api.FmtBrace, 0, "1 // a\r", "1 // a\r\r\n"}, {api.FmtBrace, 0, "[1,\n// own\n2]", "[\n  1,\n  // own\n  2\n]\n"}, {api.FmtBrace, 0, "[]/*a*/\n", "[] /*a*/\n"},
		{api.FmtTable, 0, "a=1 #x\n[t]", "a = 1 #x\n\n[t]\n"}, {api.FmtTable, 0, "# top\n\n a = [1,2]\n# own\nb={c=[ ],d=[1]} # t\n# end", "# top\na = [\n  1,\n  2\n]\n# own\nb = {c = [], d = [\n  1\n]} # t\n# end\n"}, {api.FmtTable, 30, "a = [1,2]\nb={c=[ ],d=[1]}", "a = [1, 2]\nb = {c = [], d = [1]}\n"}, {api.FmtTable, 0, "# only", "# only\n"}, {api.FmtTable, 0, "", ""}, {api.FmtTable, 30, "a = [1, # x\n2]", "a = [\n  1, # x\n  2\n]\n"}, {api.FmtTable, 0, "# c\n[[t]]\nx=1\n[[t]]", "# c\n[[t]]\nx = 1\n\n[[t]]\n"},
		{api.FmtIndent, 0, "\n\na:   # x\n\n\n  b: 1  \n # own\n\n", "a: # x\n\n  b: 1\n # own\n"}, {api.FmtIndent, 0, "a: |  \n  x  # y  \n\n\n  z\nb: 1", "a: |\n  x  # y  \n\n\n  z\nb: 1\n"}, {api.FmtIndent, 0, "a:\n  - [1]\n  - |\n    x\n    y\n\n\n- z", ""}, {api.FmtIndent, 0, "- [1, {a: 2}]\n- |\n  # x\n\n  y\n\n\n- z", "- [1, {a: 2}]\n- |\n  # x\n\n  y\n\n- z\n"}, {api.FmtIndent, 0, "a: 1 # x\r", "a: 1 # x\r\r\n"}, {api.FmtIndent, 0, "# x\n", "# x\n"}, {api.FmtIndent, 0, "|\n  x\r", "|\n  x\r\r\n"},
		{api.FmtDelim, 0, "a,\"b\"\r\n1,2", "a,\"b\"\n1,2\n"}, {api.FmtDelim, 0, "", ""},
	} {
		got, pos, err := Format(test.format, test.src, style(test.width), usual)
		if test.want == "" && test.src != "" {
			if err == api.OK {
				t.Errorf("%q", got)
			}
			continue
		}
		if got != test.want || err != api.OK || pos != (api.Pos{}) {
			t.Errorf("Format(%q) = %q, %v", test.src, got, err)
		}
		if !Formatted(test.format, got, style(test.width), usual) || Formatted(test.format, test.src, style(test.width), usual) != (got == test.src) {
			again, _, _ := Format(test.format, got, style(test.width), usual)
			t.Errorf("Formatted(%q): %q", got, again)
		}
	}
	bad := style(0)
	bad.Indent = 0
	if _, pos, err := Format(api.FmtBrace, "[", bad, usual); err != api.ErrArg || pos != (api.Pos{}) {
		t.Error(err)
	}
	if s, pos, err := Format(api.FmtBrace, "[\n1 2", style(0), usual); s != "" || err != api.ErrSyntax || pos != (api.Pos{Line: 2, Col: 3}) {
		t.Error(pos, err)
	}
	if _, pos, err := Format(0, "1", style(0), usual); err != api.ErrArg || pos != (api.Pos{}) || Formatted(0, "1", style(0), usual) {
		t.Error(pos, err)
	}
	long := "[" + strings.Repeat("1,", 60000) + "1]"
	wide := style(0)
	wide.Indent = 8
	if _, pos, err := Format(api.FmtBrace, "["+strings.Repeat("[[", 10)+long+strings.Repeat("]]", 10)+"]", wide, usual); err != api.ErrSize || pos != (api.Pos{}) {
		t.Error(err)
	}
}

// P54.3, P54.4
func TestCompact(t *testing.T) {
	for _, test := range []struct {
		format    int
		src, want string
	}{{api.FmtBrace, "{ \"a\" : [1, 2,] }", "{\"a\":[1,2]}"}, {api.FmtBrace, "// x\n[ ] /*y*/", "[]"}, {api.FmtTable, "# x\na . b", ""}, {api.FmtTable, "# x\na.b = [1, # y\n{c = 2}] # z\n\n[t]\n# w", "a.b=[1,{c=2}]\n[t]\n"}, {api.FmtIndent, "# x\na: # y\n\n  b: |\n    z\n\n    # w\nc: [1, 2]", "a:\n  b: |\n    z\n\n    # w\nc: [1, 2]\n"}, {api.FmtDelim, "a\r\n1", "a\n1\n"}, {api.FmtTable, "", ""}} {
		got, pos, err := Compact(test.format, test.src, usual)
		if test.want == "" && test.src != "" {
			if err == api.OK || pos == (api.Pos{}) {
				t.Errorf("%q", got)
			}
			continue
		}
		if got != test.want || err != api.OK {
			t.Errorf("Compact(%q) = %q, %v", test.src, got, err)
		}
	}
	for src, want := range map[string][]string{"// a \n[1, /* b\n */ 2] //c": {"a", "b", "c"}, "1": nil, "/**/1": {""}} {
		if got, _, err := Notes(api.FmtBrace, src, usual); !slices.Equal(got, want) || err != api.OK {
			t.Errorf("Notes(%q) = %q", src, got)
		}
	}
	if got, _, _ := Notes(api.FmtIndent, "a: 1 #  x \t\n#", usual); !slices.Equal(got, []string{"x", ""}) {
		t.Errorf("%q", got)
	}
	if got, pos, err := Notes(api.FmtBrace, "[", usual); got != nil || err != api.ErrTruncated || pos != (api.Pos{Line: 1, Col: 2}) {
		t.Error(err)
	}
}

// P54.5, P54.6, W10
func TestStable(t *testing.T) {
	r := rand.New(rand.NewSource(1))
	pieces := map[int][]string{
		api.FmtBrace:  {"[", "]", "{", "}", ",", "a:", "1", " ", "\n", "// x\n", "/* y */", "[1, 2]", "{a: 1}", "\r\n", "// z\r"},
		api.FmtTable:  {"a = 1\n", "b = [1, 2]\n", "[t]\n", "c = [ # x\n1]\n", "# y\n", "\n", "d = {x = [1], y = {}}\n", "[[u]]\n", " ", "# z\r"},
		api.FmtIndent: {"a: ", "- ", "1", "\n", "  ", "# x\n", "|\n", "b:\n", "[1, 2]", " ", "# y", "\r\n", "# z\r"},
		api.FmtDelim:  {"a", ",", "\n", "\"b\"", "\r\n", "1,2\n"},
	}
	for format, list := range pieces {
		good := 0
		for range 15000 {
			src := ""
			for range r.Intn(9) {
				src += list[r.Intn(len(list))]
			}
			v, _, err := reader.Read(format, src, usual)
			if err != api.OK {
				continue
			}
			good++
			s := style(r.Intn(3) * 12)
			d, _, _ := reader.Parse(format, src, usual)
			text, _, err := Format(format, src, s, usual)
			w, _, err2 := reader.Read(format, text, usual)
			e, _, _ := reader.Parse(format, text, usual)
			if err != api.OK || err2 != api.OK || !value.Same(v, w) || !slices.Equal(reader.Comments(d), reader.Comments(e)) {
				t.Fatalf("%q: %q", src, text)
			}
			if !Formatted(format, text, s, usual) {
				again, _, _ := Format(format, text, s, usual)
				t.Fatalf("%q: %q: %q", src, text, again)
			}
			short, _, err := Compact(format, src, usual)
			w, _, err2 = reader.Read(format, short, usual)
			e, _, _ = reader.Parse(format, short, usual)
			again, _, _ := Compact(format, short, usual)
			if err != api.OK || err2 != api.OK || !value.Same(v, w) || len(reader.Comments(e)) > 0 || again != short {
				t.Fatalf("%q: %q", src, short)
			}
		}
		if good < 200 {
			t.Error(format, good)
		}
	}
}
