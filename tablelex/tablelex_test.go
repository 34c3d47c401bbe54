package tablelex

import (
	"math/rand"
	"strings"
	"testing"
	"unicode/utf8"

	"datakit/api"
	"datakit/bracelex"
	"datakit/decimal"
	"datakit/moment"
	"datakit/value"
)

// P24.1
func TestNext(t *testing.T) {
	tests := []struct {
		src, text string
		kind      int
		err       api.Errno
	}{
		{" \t x", " \t ", api.TokSpace, 0}, {"\n\n", "\n", api.TokLine, 0}, {"\r\n\n", "\r\n", api.TokLine, 0}, {"\r", "", 0, api.ErrTruncated}, {"\r\r\n", "", 0, api.ErrSyntax},
		{"#", "#", api.TokComment, 0}, {"# é\r x\r\n1", "# é\r x", api.TokComment, 0}, {"# a\n1", "# a", api.TokComment, 0}, {"# a\xff\n", "", 0, api.ErrText}, {"# a\r", "# a\r", api.TokComment, 0},
		{"[[", "[", api.TokPunct, 0}, {"]", "]", api.TokPunct, 0}, {"{", "{", api.TokPunct, 0}, {"}", "}", api.TokPunct, 0}, {",", ",", api.TokPunct, 0}, {"==", "=", api.TokPunct, 0},
		{`"a\n"b`, `"a\n"`, api.TokText, 0}, {`"\ud83d"`, "", 0, api.ErrText}, {`"\q"`, "", 0, api.ErrSyntax}, {`"a`, "", 0, api.ErrTruncated}, {"\"\n\"", "", 0, api.ErrText},
		{`'a\b'c`, `'a\b'`, api.TokText, 0}, {"''", "''", api.TokText, 0}, {"'a", "", 0, api.ErrTruncated}, {"'a\n'", "", 0, api.ErrText}, {"'\xff'", "", 0, api.ErrText}, {"'\x7fé'", "'\x7fé'", api.TokText, 0},
		{"a.b = 1", "a.b", api.TokWord, 0}, {"-+._:aZ09=", "-+._:aZ09", api.TokWord, 0}, {"t\"x\"", "t", api.TokWord, 0}, {"01", "01", api.TokWord, 0}, {"1.", "1.", api.TokWord, 0},
		{"2024-02-29 10:00:00Z x", "2024-02-29 10:00:00Z", api.TokWord, 0}, {"2024-02-29 1", "2024-02-29", api.TokWord, 0}, {"2024-02-29  10:00:00", "2024-02-29", api.TokWord, 0}, {"2024-02-29 10:", "2024-02-29 10:", api.TokWord, 0}, {"2024-02-29 10", "2024-02-29", api.TokWord, 0}, {"2024-02-29\t10:", "2024-02-29", api.TokWord, 0}, {"x2024-02-29 10:00", "x2024-02-29", api.TokWord, 0}, {"2024-02-29T 10:00", "2024-02-29T", api.TokWord, 0}, {"9999-99-99 99:9999-99-99 10:00", "9999-99-99 99:9999-99-99", api.TokWord, 0}, {"2024-02-29 10:é", "2024-02-29 10:", api.TokWord, 0},
		{"@", "", 0, api.ErrSyntax}, {"é", "", 0, api.ErrSyntax}, {"\xff", "", 0, api.ErrSyntax}, {"/", "", 0, api.ErrSyntax}, {"\x00", "", 0, api.ErrSyntax}, {"$", "", 0, api.ErrSyntax},
	}
	for _, test := range tests {
		for _, before := range []string{"", "\xff\""} {
			got, err := Next(before+test.src, len(before))
			want := api.Token{Kind: test.kind, Text: test.text}
			if test.err == api.OK {
				want.At = len(before)
			}
			if err != test.err || got != want {
				t.Errorf("Next(%q) = %v, %v", test.src, got, err)
			}
		}
	}
	for at, want := range map[int]api.Errno{-1: api.ErrArg, 2: api.ErrArg, 1: api.ErrNotFound, 0: api.OK} {
		if _, err := Next("1", at); err != want {
			t.Error(at, err)
		}
	}
}

// P24.2, P24.3
func TestTokens(t *testing.T) {
	src := "[[x]]\na.b = 1.5 # c"
	list, at, err := Tokens(src)
	want := []string{"[", "[", "x", "]", "]", "\n", "a.b", " ", "=", " ", "1.5", " ", "# c"}
	if err != api.OK || at != 0 || len(list) != len(want) || Join(list) != src {
		t.Fatal(list, at, err)
	}
	for i, token := range list {
		if token.Text != want[i] {
			t.Error(token)
		}
	}
	for _, test := range []struct {
		src string
		at  int
		err api.Errno
	}{{"", 0, 0}, {"a = @", 4, api.ErrSyntax}, {"a = \"x", 6, api.ErrTruncated}, {"@ \xff", 2, api.ErrText}, {"a 'b\n'", 2, api.ErrText}, {"a\r", 2, api.ErrTruncated}, {strings.Repeat("\xff", api.MaxInput+1), 0, api.ErrSize}} {
		if list, at, err := Tokens(test.src); at != test.at || err != test.err || err != api.OK && list != nil {
			t.Errorf("Tokens(%.20q) = %d, %v", test.src, at, err)
		}
	}
	if Join([]api.Token{{Text: "\xff", At: 9}, {Text: "b"}}) != "\xffb" {
		t.Error("Join")
	}
}

// P24.4, P24.5
func TestQuote(t *testing.T) {
	for s, want := range map[string]bool{"a": true, "-": true, "_9": true, "1": true, "": false, "a b": false, "a.b": false, "é": false, "a:": false} {
		if Bare(s) != want {
			t.Error(s)
		}
	}
	for _, s := range []string{"", "a\n\"é", "\xff"} {
		got, err := Quote(s)
		want, e := bracelex.Quote(s)
		if got != want || err != e {
			t.Error(s)
		}
	}
	for s, want := range map[string]string{`'a\b'`: `a\b`, "''": "", `"\u0041\n"`: "A\n", `'"'`: `"`} {
		if got, err := Unquote(s); got != want || err != api.OK {
			t.Error(s, err)
		}
	}
	for s, want := range map[string]api.Errno{"": api.ErrTruncated, "a": api.ErrSyntax, "'a": api.ErrTruncated, "'a'b": api.ErrSyntax, "'\n'": api.ErrText, `"a`: api.ErrTruncated, `"a" `: api.ErrSyntax, `"\x"`: api.ErrSyntax, " ''": api.ErrSyntax} {
		if got, err := Unquote(s); got != "" || err != want {
			t.Errorf("%q: %v", s, err)
		}
	}
}

// P24.6, P24.7
func TestScalar(t *testing.T) {
	d, _ := decimal.Parse("1.5")
	x, _ := moment.Parse("2024-02-29 10:00:00")
	for s, want := range map[string]api.Value{"true": value.Bool(true), "false": value.Bool(false), "1.50": value.Num(d), "2024-02-29 10:00:00": value.Time(x), `'a"'`: value.Text("a\""), `"\n"`: value.Text("\n"), "'" + strings.Repeat("x", api.MaxText) + "'": value.Text(strings.Repeat("x", api.MaxText))} {
		if got, err := Scalar(s); err != api.OK || !value.Same(got, want) {
			t.Errorf("%.20q: %v", s, err)
		}
	}
	for s, want := range map[string]api.Errno{"": api.ErrSyntax, "null": api.ErrSyntax, "01": api.ErrSyntax, "1.2.3": api.ErrSyntax, "1e999": api.ErrRange, "25:00:00": api.ErrRange, "2024-02-30": api.ErrRange, "True": api.ErrSyntax, "'a": api.ErrTruncated, "\"\x01\"": api.ErrText, "'" + strings.Repeat("x", api.MaxText+1) + "'": api.ErrSize, "[": api.ErrSyntax, "a": api.ErrSyntax} {
		if got, err := Scalar(s); err != want || !value.Same(got, value.Null()) {
			t.Errorf("%.20q: %v", s, err)
		}
	}
	for want, v := range map[string]api.Value{"true": value.Bool(true), "false": value.Bool(false), "1.5": value.Num(d), "2024-02-29T10:00:00": value.Time(x), `"a"`: value.Text("a")} {
		if got, err := Show(v); got != want || err != api.OK {
			t.Error(got, err)
		}
	}
	for kind, want := range map[int]api.Errno{api.VNull: api.ErrLoss, api.VBytes: api.ErrLoss, api.VList: api.ErrKind, api.VMap: api.ErrKind, 8: api.ErrKind, -1: api.ErrKind} {
		if got, err := Show(api.Value{Kind: kind}); got != "" || err != want {
			t.Error(kind, err)
		}
	}
}

// P24.8
func TestCutSources(t *testing.T) {
	r := rand.New(rand.NewSource(1))
	pieces := []string{"[", "]", "a.b", "=", "é", "\"", "\\u00e9", "\\", "#x\n", "'", "2024-02-29 10:00:00", " ", "\r\n", "\n", `"a\n"`, "'é'", ",", "-1"}
	good := 0
	for range 20000 {
		src := ""
		for range 1 + r.Intn(6) {
			src += pieces[r.Intn(len(pieces))]
		}
		list, _, err := Tokens(src)
		if err != api.OK {
			continue
		}
		good++
		at := 0
		for _, token := range list {
			if token.At != at || token.Text == "" {
				t.Fatalf("%q: %v", src, list)
			}
			at += len(token.Text)
		}
		if at != len(src) {
			t.Fatal(src)
		}
		for cut := range src {
			if !utf8.RuneStart(src[cut]) {
				continue
			}
			if _, at, err := Tokens(src[:cut]); err != api.OK && (err != api.ErrTruncated || at != cut) {
				t.Fatalf("%q cut at %d: %v", src, cut, err)
			}
		}
	}
	if good < 1000 {
		t.Error(good)
	}
}
