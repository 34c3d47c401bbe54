package qlex

import (
	"math/rand"
	"strings"
	"testing"

	"datakit/api"
)

// P35.1
func TestNext(t *testing.T) {
	for _, test := range []struct {
		src, text string
		kind      int
		err       api.Errno
	}{
		{" \t\n", " \t", api.TokSpace, 0}, {"\n", "\n", api.TokLine, 0}, {"\r\n\n", "\r\n", api.TokLine, 0}, {"\r", "", 0, api.ErrSyntax}, {"# a\rb\r\nc", "# a\rb", api.TokComment, 0}, {"#\xff\n", "#\xff", api.TokComment, 0}, {"#", "#", api.TokComment, 0}, {"# a\r", "# a\r", api.TokComment, 0},
		{"...a", "..", api.TokPunct, 0}, {".a", ".", api.TokPunct, 0}, {"|=", "|=", api.TokPunct, 0}, {"||", "|", api.TokPunct, 0}, {"==", "==", api.TokPunct, 0}, {"=<", "=", api.TokPunct, 0}, {"!=", "!=", api.TokPunct, 0}, {"!", "", 0, api.ErrSyntax}, {"! =", "", 0, api.ErrSyntax}, {"<=", "<=", api.TokPunct, 0}, {">=", ">=", api.TokPunct, 0}, {"><", ">", api.TokPunct, 0}, {"///", "//", api.TokPunct, 0}, {"/", "/", api.TokPunct, 0}, {"?", "?", api.TokPunct, 0}, {"::a", ":", api.TokPunct, 0}, {";", ";", api.TokPunct, 0}, {"%", "%", api.TokPunct, 0},
		{"m::f(", "m::f", api.TokWord, 0}, {"m::f::g", "m::f", api.TokWord, 0}, {"m::1", "m", api.TokWord, 0}, {"m:: f", "m", api.TokWord, 0}, {"$a::b", "$a", api.TokWord, 0}, {"$", "", 0, api.ErrSyntax}, {"$1", "", 0, api.ErrSyntax}, {"_a1-", "_a1", api.TokWord, 0}, {"$and", "$and", api.TokWord, 0},
		{"0", "0", api.TokWord, 0}, {"01", "", 0, api.ErrSyntax}, {"1e", "", 0, api.ErrSyntax}, {"1a", "", 0, api.ErrSyntax}, {"1_", "", 0, api.ErrSyntax}, {"1.a", "1", api.TokWord, 0}, {"1.5.3", "1.5", api.TokWord, 0}, {"1..2", "1", api.TokWord, 0}, {"12.50e-03x", "", 0, api.ErrSyntax}, {"12.50e-03 ", "12.50e-03", api.TokWord, 0}, {"1e+", "", 0, api.ErrSyntax}, {"1E5", "1E5", api.TokWord, 0}, {"0.", "0", api.TokWord, 0}, {"1e5.5", "1e5", api.TokWord, 0},
		{`"a\n\u00E9"b`, `"a\n\u00E9"`, api.TokText, 0}, {`"\ud83d\ude00"`, `"\ud83d\ude00"`, api.TokText, 0}, {`"\ud83dx`, "", 0, api.ErrText}, {`"\ud83d`, "", 0, api.ErrTruncated}, {`"\ud83d\n"`, "", 0, api.ErrText}, {"\"\\ud83d\n", "", 0, api.ErrText}, {"\"\\ud83d\\\n", "", 0, api.ErrText}, {`"\ud83d\u0041"`, "", 0, api.ErrText}, {`"\ud83d\u00g"`, "", 0, api.ErrSyntax}, {`"\ude00"`, "", 0, api.ErrText}, {`"`, "", 0, api.ErrTruncated}, {`"\`, "", 0, api.ErrTruncated}, {`"\u12`, "", 0, api.ErrTruncated}, {"\"\x1f\"", "", 0, api.ErrSyntax}, {"\"\n", "", 0, api.ErrSyntax}, {`"\q"`, "", 0, api.ErrSyntax}, {"\"\\u\n", "", 0, api.ErrSyntax}, {"\"\xff\x7f\"", "\"\xff\x7f\"", api.TokText, 0}, {`"\/\b\f\r\t\\\""`, `"\/\b\f\r\t\\\""`, api.TokText, 0},
		{"é", "", 0, api.ErrSyntax}, {"\xff", "", 0, api.ErrSyntax}, {"@", "", 0, api.ErrSyntax}, {"'", "", 0, api.ErrSyntax}, {"\x00", "", 0, api.ErrSyntax}, {"&", "", 0, api.ErrSyntax},
	} {
		got, err := Next("\xff"+test.src, 1)
		want := api.Token{Kind: test.kind, Text: test.text}
		if test.err == api.OK {
			want.At = 1
		}
		if got != want || err != test.err {
			t.Errorf("Next(%q) = %v, %v", test.src, got, err)
		}
	}
	for _, at := range []int{-1, 1, 2} {
		if _, err := Next("a", at); err != api.ErrArg {
			t.Error(at, err)
		}
	}
}

// P35.2
func TestTokens(t *testing.T) {
	list, at, err := Tokens(".a[0] // $x # y\r\n\t.. m::f")
	var texts []string
	for _, token := range list {
		texts = append(texts, token.Text)
	}
	if err != api.OK || at != 0 || strings.Join(texts, " ") != ". a [ 0 ] // $x .. m::f" || list[7].At != 18 {
		t.Error(texts, at, err)
	}
	for _, test := range []struct {
		src string
		at  int
		err api.Errno
	}{{"", 0, 0}, {"a @", 2, api.ErrSyntax}, {"a \"x", 4, api.ErrTruncated}, {"@ \xff", 2, api.ErrText}, {"a \"\\ude00\"", 2, api.ErrText}, {strings.Repeat("\xff", api.MaxInput+1), 0, api.ErrSize}} {
		if list, at, err := Tokens(test.src); at != test.at || err != test.err || list != nil {
			t.Errorf("Tokens(%.20q) = %d, %v", test.src, at, err)
		}
	}
}

// P35.3
func TestNames(t *testing.T) {
	for _, s := range strings.Fields("and as break catch def else end false foreach if import label null or reduce then true try") {
		if !Keyword(s) || Ident(s) {
			t.Error(s)
		}
	}
	for _, s := range []string{"a", "_", "And", "a1", strings.Repeat("x", 64)} {
		if Keyword(s) || !Ident(s) {
			t.Error(s)
		}
	}
	for _, s := range []string{"", "1", "a-b", "$a", "a::b", "é", "a ", strings.Repeat("x", 65)} {
		if Keyword(s) || Ident(s) {
			t.Error(s)
		}
	}
}

// P35.4, P35.5
func TestQuote(t *testing.T) {
	for s, want := range map[string]string{"": `""`, "a\"\\/": `"a\"\\/"`, "\b\f\n\r\t\x01\x1f\x7fé": "\"\\b\\f\\n\\r\\t\\u0001\\u001f\x7fé\""} {
		got, err := Quote(s)
		back, err2 := Unquote(got)
		if got != want || err != api.OK || back != s || err2 != api.OK {
			t.Errorf("Quote(%q) = %s", s, got)
		}
	}
	long := strings.Repeat("x", api.MaxText)
	if _, err := Quote(long); err != api.OK {
		t.Error(err)
	}
	for s, want := range map[string]api.Errno{"\xff" + long: api.ErrText, long + "x": api.ErrSize} {
		if got, err := Quote(s); got != "" || err != want {
			t.Error(err)
		}
	}
	if s, err := Unquote(`"\ud83d\ude00\u0041"`); s != "\U0001f600A" || err != api.OK {
		t.Error(s)
	}
	for s, want := range map[string]api.Errno{"": api.ErrSyntax, "a": api.ErrSyntax, "\"\xff\"": api.ErrText, "\"a": api.ErrTruncated, "\"a\" ": api.ErrSyntax, "\"\n\"": api.ErrSyntax, `"\ude00"`: api.ErrText, "\"" + long + "x\"": api.ErrSize} {
		if got, err := Unquote(s); got != "" || err != want {
			t.Errorf("Unquote(%.20q): %v", s, err)
		}
	}
}

// P35.6
func TestWhole(t *testing.T) {
	r := rand.New(rand.NewSource(1))
	pieces := []string{"a", "::", "$", ".", "1", "e5", "\"x\"", " ", "\r\n", "#", "//", "|=", "=", "!", "\"", "\\n"}
	for range 10000 {
		src := ""
		for range r.Intn(8) {
			src += pieces[r.Intn(len(pieces))]
		}
		if _, _, err := Tokens(src); err != api.OK {
			continue
		}
		all := ""
		for at := 0; at < len(src); {
			token, err := Next(src, at)
			if err != api.OK || token.Text == "" {
				t.Fatal(src)
			}
			at += len(token.Text)
			all += token.Text
		}
		if all != src {
			t.Fatal(src)
		}
	}
}
