package indentlex

import (
	"math/rand"
	"strings"
	"testing"

	"datakit/api"
	"datakit/bracelex"
	"datakit/decimal"
	"datakit/value"
)

// P21.1, P21.2
func TestLines(t *testing.T) {
	tests := []struct {
		src                string
		indent             int
		text, comment, end string
	}{
		{`  a: "x # y" # z`, 2, `a: "x # y"`, " # z", ""},
		{"it's a # b\n", 0, "it's a", " # b", "\n"},
		{"say 'a # b\r\n", 0, "say 'a # b", "", "\r\n"},
		{"a#b", 0, "a#b", "", ""}, {"#b", 0, "", "#b", ""}, {"   # b", 3, "", "# b", ""}, {"   ", 3, "", "", ""}, {"\n", 0, "", "", "\n"}, {"\r\n", 0, "", "", "\r\n"}, {"a\rb\r", 0, "a\rb\r", "", ""},
		{"a  ", 0, "a", "  ", ""}, {"a   #", 0, "a", "   #", ""}, {"\ta # x", 0, "\ta", " # x", ""}, {"a\t# x", 0, "a\t# x", "", ""}, {"a \t # x", 0, "a \t", " # x", ""},
		{"'a''b # c' # d", 0, "'a''b # c'", " # d", ""}, {"'''a # b", 0, "'''a # b", "", ""}, {"'' # b", 0, "''", " # b", ""}, {"'''' # b", 0, "''''", " # b", ""},
		{`"a\" # b" # c`, 0, `"a\" # b"`, " # c", ""}, {`"a\\" # b" # c`, 0, `"a\\"`, ` # b" # c`, ""}, {`"a\`, 0, `"a\`, "", ""},
		{`['a # b',"c # d"]`, 0, `['a # b',"c # d"]`, "", ""}, {`{'a # b' # c`, 0, `{'a # b'`, " # c", ""}, {`a:'b # c'`, 0, `a:'b`, " # c'", ""}, {`'a'#b`, 0, `'a'#b`, "", ""}, {`'a''#b # c`, 0, `'a''#b # c`, "", ""},
		{"'a'\"b # c", 0, "'a'\"b", " # c", ""}, {"é # ü\n", 0, "é", " # ü", "\n"}, {"a # 'b", 0, "a", " # 'b", ""}, {"a ' # b", 0, "a ' # b", "", ""}, {"a # b # c", 0, "a", " # b # c", ""},
	}
	for _, test := range tests {
		list, at, err := Lines(test.src)
		want := api.Line{Indent: test.indent, Text: test.text, Comment: test.comment, End: test.end}
		if err != api.OK || at != 0 || len(list) != 1 || list[0] != want {
			t.Errorf("Lines(%q) = %+v", test.src, list)
		}
		if Join(list) != test.src {
			t.Errorf("Join of %q", test.src)
		}
	}
	list, _, _ := Lines("a\n\n  b # x\r\nc")
	if len(list) != 4 || list[1].At != 2 || list[2].At != 3 || list[3].At != 12 || list[3].Text != "c" {
		t.Error(list)
	}
	if list, _, err := Lines(""); len(list) != 0 || err != api.OK {
		t.Error(list)
	}
	if _, at, err := Lines("a\n\ufffd\xff"); at != 5 || err != api.ErrText {
		t.Error(at, err)
	}
	if _, at, err := Lines(strings.Repeat("\xff", api.MaxInput+1)); at != 0 || err != api.ErrSize {
		t.Error(at, err)
	}
	// An Indent above MaxInput has no meaning, but does no harm.
	if got := Join([]api.Line{{Indent: 1<<63 - 1}}); len(got) < api.MaxInput {
		t.Error(len(got))
	}
	if got := Join([]api.Line{{Indent: -3, Text: "x\xff"}, {Indent: 2, Comment: "#", End: "\n"}}); got != "x\xff  #\n" {
		t.Errorf("%q", got)
	}
}

// P21.3
func TestPlain(t *testing.T) {
	for _, s := range []string{"a", "a b", "a-b", "007", "-a", "--", "_-./+$()=", "é", "1.2.3", "nullx", "True", "(x)", "2024-1-1"} {
		if !Plain(s) {
			t.Errorf("%q", s)
		}
	}
	for _, s := range []string{"", " a", "a ", "-", "- a", "a,b", "a:b", "it's", "a#b", "null", "true", "false", "7", "1e2", "-0.5", "1e999", "2024-02-29", "2024-02-30", "10:00:00", "2024-02-29 10:00:00", "a\n", "a\tb", "\x7f", "a\xff", "*x", "a!", "a@", "[", "x~"} {
		if Plain(s) {
			t.Errorf("%q", s)
		}
	}
}

// P21.4
func TestQuote(t *testing.T) {
	for s, want := range map[string]string{"'it''s'": "it's", `"it's"`: "it's", "''": "", "''''": "'", "'a\"\\b é'": "a\"\\b é", `"\u0041"`: "A", "'\x7f'": "\x7f"} {
		if got, err := Unquote(s); got != want || err != api.OK {
			t.Errorf("Unquote(%s) = %q, %v", s, got, err)
		}
	}
	for s, want := range map[string]api.Errno{"": api.ErrTruncated, "a": api.ErrSyntax, "'a": api.ErrTruncated, "'a''": api.ErrTruncated, "'": api.ErrTruncated, "'a\t": api.ErrText, "'a'\t": api.ErrSyntax, "'\xff": api.ErrText, "'a' ": api.ErrSyntax, "'a'b'": api.ErrSyntax, `"a`: api.ErrTruncated, `"\q"`: api.ErrSyntax, "\"\n\"": api.ErrText, " 'a'": api.ErrSyntax} {
		if got, err := Unquote(s); got != "" || err != want {
			t.Errorf("Unquote(%q) = %q, %v", s, got, err)
		}
	}
	for _, s := range []string{"", "it's", "a\n\"", "\xff"} {
		got, err := Quote(s)
		want, e := bracelex.Quote(s)
		if got != want || err != e {
			t.Error(s)
		}
	}
}

// P21.5
func TestScalar(t *testing.T) {
	num := func(s string) api.Value {
		d, _ := decimal.Parse(s)
		return value.Num(d)
	}
	good := map[string]api.Value{
		"": {}, "null": {}, "true": value.Bool(true), "false": value.Bool(false), "7": num("7"), "1e2": num("100"), "-0.50": num("-0.5"),
		"2024-02-29": value.Time(api.Time{Kind: api.TimeDate, Day: 738944}), "00:00:01.50": value.Time(api.Time{Kind: api.TimeClock, Nano: 1500000000}),
		"007": value.Text("007"), "a:b": value.Text("a:b"), "it's": value.Text("it's"), "'it''s'": value.Text("it's"), `"\u0041"`: value.Text("A"), "''": value.Text(""),
		"!b": value.Bytes(nil), "!b AQI=": value.Bytes([]byte{1, 2}), "a#b": value.Text("a#b"), "-a": value.Text("-a"), "a[b]": value.Text("a[b]"), "Null": value.Text("Null"), "~": value.Text("~"), "a 'b": value.Text("a 'b"), "é": value.Text("é"), "<a>": value.Text("<a>"), "?": value.Text("?"), "a!": value.Text("a!"),
		strings.Repeat("x", api.MaxText): value.Text(strings.Repeat("x", api.MaxText)),
	}
	for s, want := range good {
		got, err := Scalar(s)
		if err != api.OK || !value.Same(got, want) {
			t.Errorf("Scalar(%.20q) = %v, %v", s, got, err)
		}
	}
	bad := map[string]api.Errno{
		"1e999": api.ErrRange, "2024-02-30": api.ErrRange, "24:00:00": api.ErrRange, "a: b": api.ErrSyntax, "- a": api.ErrSyntax, "-": api.ErrSyntax, "*x": api.ErrSyntax, "&x": api.ErrSyntax, "[a": api.ErrSyntax, "]": api.ErrSyntax, "{": api.ErrSyntax, "}": api.ErrSyntax, ",a": api.ErrSyntax, "#a": api.ErrSyntax, "!a": api.ErrSyntax, "|": api.ErrSyntax, ">": api.ErrSyntax, "%": api.ErrSyntax, "@": api.ErrSyntax, "`a": api.ErrSyntax,
		"a #b": api.ErrSyntax, "a:": api.ErrSyntax, " a": api.ErrSyntax, "a ": api.ErrSyntax, "'a": api.ErrSyntax, "'a'b": api.ErrSyntax, `"\q"`: api.ErrSyntax, `"\ud800"`: api.ErrText, `"a`: api.ErrSyntax, "a\tb": api.ErrText, "a\n": api.ErrText, "\xff": api.ErrText, "'\x01": api.ErrText,
		"!b ": api.ErrSyntax, "!bAQI=": api.ErrSyntax, "!b AQI": api.ErrSyntax, "!b  AQI=": api.ErrSyntax, "!b AQI= ": api.ErrSyntax,
		strings.Repeat("x", api.MaxText+1): api.ErrSize, "'" + strings.Repeat("x", api.MaxText+1) + "'": api.ErrSize, "!b " + strings.Repeat("AAAA", api.MaxText/3+1): api.ErrSize,
	}
	for s, want := range bad {
		got, err := Scalar(s)
		if err != want || !value.Same(got, value.Null()) {
			t.Errorf("Scalar(%.20q) = %v, %v, not %v", s, got, err, want)
		}
	}
}

// P21.6
func TestShow(t *testing.T) {
	for want, v := range map[string]api.Value{"null": {}, "true": value.Bool(true), "false": value.Bool(false), "100": value.Int(100), "2024-02-29": value.Time(api.Time{Kind: api.TimeDate, Day: 738944}), `"12"`: value.Text("12"), `"a,b"`: value.Text("a,b"), "a-b": value.Text("a-b"), "!b AQI=": value.Bytes([]byte{1, 2}), "!b": value.Bytes(nil), `""`: value.Text(""), `"a\n"`: value.Text("a\n")} {
		if got, err := Show(v); got != want || err != api.OK {
			t.Errorf("Show(%v) = %s", v, got)
		}
	}
	for _, kind := range []int{api.VList, api.VMap, 8, -1} {
		if got, err := Show(api.Value{Kind: kind}); got != "" || err != api.ErrKind {
			t.Error(kind, err)
		}
	}
}

// P21.7
func TestKey(t *testing.T) {
	tests := []struct {
		s, key string
		size   int
		err    api.Errno
	}{
		{"a b: c", "a b", 3, 0}, {`"x":`, "x", 3, 0}, {"a:b", "", 0, api.ErrNotFound}, {"10:00:00", "", 0, api.ErrNotFound}, {"a:", "a", 1, 0}, {"a:b: c", "a:b", 3, 0}, {"1: 2", "1", 1, 0}, {"null:", "null", 4, 0}, {"'it''s': x", "it's", 7, 0}, {`"\u0041": x`, "A", 8, 0},
		{"'a' : x", "", 0, api.ErrNotFound}, {"'a':b", "", 0, api.ErrNotFound}, {"'a: x", "", 0, api.ErrNotFound}, {`"\q": x`, "", 0, api.ErrNotFound}, {"a : b", "", 0, api.ErrNotFound}, {": b", "", 0, api.ErrNotFound}, {":", "", 0, api.ErrNotFound}, {"", "", 0, api.ErrNotFound}, {"- a: b", "", 0, api.ErrNotFound}, {"-: b", "", 0, api.ErrNotFound}, {"-a: b", "-a", 2, 0}, {"a #b: c", "", 0, api.ErrNotFound}, {"[a: b", "", 0, api.ErrNotFound}, {"*a: b", "", 0, api.ErrNotFound}, {"a\tb: c", "", 0, api.ErrNotFound}, {"\xff: c", "", 0, api.ErrNotFound}, {"a: \xff", "a", 1, 0}, {"a::", "a:", 2, api.ErrNotFound}, {"''", "", 0, api.ErrNotFound}, {"'':", "", 2, 0}, {"é: 1", "é", 2, 0},
		{strings.Repeat("k", api.MaxKey) + ":", strings.Repeat("k", api.MaxKey), api.MaxKey, 0}, {strings.Repeat("k", api.MaxKey+1) + ":", "", 0, api.ErrSize}, {"'" + strings.Repeat("k", api.MaxKey) + "':", strings.Repeat("k", api.MaxKey), api.MaxKey + 2, 0}, {"'" + strings.Repeat("k", api.MaxKey+1) + "':", "", 0, api.ErrSize},
	}
	for _, test := range tests {
		if test.err != api.OK {
			test.key, test.size = "", 0
		}
		key, size, err := Key(test.s)
		if key != test.key || size != test.size || err != test.err {
			t.Errorf("Key(%.20q) = %q, %d, %v", test.s, key, size, err)
		}
	}
}

// P21.8
func TestConsequences(t *testing.T) {
	r := rand.New(rand.NewSource(1))
	pieces := []string{"a", " ", "#", "'", "\"", "\\", "-", ":", "é", "1", "!", ",", "[", "null", "\n", "\t", "\r\n"}
	for range 20000 {
		var b strings.Builder
		for range r.Intn(8) {
			b.WriteString(pieces[r.Intn(len(pieces))])
		}
		s := b.String()
		lines, _, err := Lines(s)
		if err != api.OK || Join(lines) != s {
			t.Fatalf("%q", s)
		}
		at := 0
		for _, l := range lines {
			if l.At != at || strings.HasSuffix(l.Text, " ") || strings.HasPrefix(l.Text, " ") {
				t.Fatalf("%q: %+v", s, lines)
			}
			at += l.Indent + len(l.Text) + len(l.Comment) + len(l.End)
		}
		q, _ := Quote(s)
		if back, err := Unquote(q); back != s || err != api.OK {
			t.Fatalf("%q", s)
		}
		text, _ := Show(value.Text(s))
		v, err := Scalar(text)
		if err != api.OK || !value.Same(v, value.Text(s)) {
			t.Fatalf("%q: %q", s, text)
		}
		if Plain(s) && text != s {
			t.Fatalf("%q", s)
		}
		if one, _, _ := Lines(text); len(one) != 1 || one[0].Text != text {
			t.Fatalf("%q: %+v", text, one)
		}
	}
}
