package bracelex

import (
	"math/rand"
	"strings"
	"testing"
	"unicode/utf8"

	"datakit/api"
	"datakit/decimal"
)

// P19.1
func TestNext(t *testing.T) {
	tests := []struct {
		src, text string
		kind      int
		err       api.Errno
	}{
		{" \t x", " \t ", api.TokSpace, 0},
		{"\n\n", "\n", api.TokLine, 0},
		{"\r\n\n", "\r\n", api.TokLine, 0},
		{"\r", "", 0, api.ErrTruncated},
		{"\r\r\n", "", 0, api.ErrSyntax},
		{"//", "//", api.TokComment, 0},
		{"// é\r x\r\n1", "// é\r x", api.TokComment, 0},
		{"// a\n1", "// a", api.TokComment, 0},
		{"// a\r", "// a\r", api.TokComment, 0},
		{"// a\xff\n", "", 0, api.ErrText},
		{"// a\n\xff", "// a", api.TokComment, 0},
		{"/**/*/", "/**/", api.TokComment, 0},
		{"/*/", "", 0, api.ErrTruncated},
		{"/*/*/", "/*/*/", api.TokComment, 0},
		{"/* \n é */x", "/* \n é */", api.TokComment, 0},
		{"/* \xe9 */", "", 0, api.ErrText},
		{"/* *", "", 0, api.ErrTruncated},
		{"/* \ufffd */", "/* \ufffd */", api.TokComment, 0},
		{"/", "", 0, api.ErrTruncated},
		{"/a", "", 0, api.ErrSyntax},
		{"[]", "[", api.TokPunct, 0}, {"]", "]", api.TokPunct, 0}, {"{", "{", api.TokPunct, 0}, {"}", "}", api.TokPunct, 0}, {",", ",", api.TokPunct, 0}, {":", ":", api.TokPunct, 0},
		{`"a"b`, `"a"`, api.TokText, 0},
		{`t"a"`, `t"a"`, api.TokText, 0},
		{`b""1`, `b""`, api.TokText, 0},
		{`at"a"`, "at", api.TokWord, 0},
		{`tb"a"`, "tb", api.TokWord, 0},
		{`"\"\\\/\b\f\n\r\t"`, `"\"\\\/\b\f\n\r\t"`, api.TokText, 0},
		{`"\u00e9\uD83d\ude00"`, `"\u00e9\uD83d\ude00"`, api.TokText, 0},
		{`"`, "", 0, api.ErrTruncated}, {`"\`, "", 0, api.ErrTruncated}, {`"\u`, "", 0, api.ErrTruncated}, {`"\ud83`, "", 0, api.ErrTruncated}, {`"\ud83d`, "", 0, api.ErrTruncated},
		{`"\ud83d\`, "", 0, api.ErrTruncated}, {`"\ud83d\ud`, "", 0, api.ErrTruncated},
		{`"\ud83"`, "", 0, api.ErrSyntax}, {`"\ud83d"`, "", 0, api.ErrText}, {`"\ude00"`, "", 0, api.ErrText}, {`"\ud83d\n"`, "", 0, api.ErrText}, {`"\ud83d\u0041"`, "", 0, api.ErrText},
		{`"\ud83d\ud83d"`, "", 0, api.ErrText}, {`"\ud83d\u00g1"`, "", 0, api.ErrSyntax}, {`"\x"`, "", 0, api.ErrSyntax}, {"\"\\\xff\"", "", 0, api.ErrSyntax}, {"\"\\\n\"", "", 0, api.ErrSyntax},
		{"\"\\u\x01\"", "", 0, api.ErrSyntax}, {"\"\\u00\xff", "", 0, api.ErrSyntax}, {"\"\\ud83d\xff", "", 0, api.ErrText}, {"\"\\\ufffd\"", "", 0, api.ErrSyntax},
		{"\"a\nb\"", "", 0, api.ErrText}, {"\"a\xc3", "", 0, api.ErrText}, {"\"\x7f\"", "\"\x7f\"", api.TokText, 0}, {"\"\ufffd\"", "\"\ufffd\"", api.TokText, 0}, {"\"\x1f", "", 0, api.ErrText},
		{"a-b", "", 0, api.ErrSyntax}, {"$a_0 ", "$a_0", api.TokWord, 0}, {"nul", "nul", api.TokWord, 0}, {"_", "_", api.TokWord, 0},
		{"-1.5e3,", "-1.5e3", api.TokWord, 0}, {"0", "0", api.TokWord, 0}, {"10E+05", "10E+05", api.TokWord, 0}, {"0.00", "0.00", api.TokWord, 0},
		{"01", "", 0, api.ErrSyntax}, {"1a", "", 0, api.ErrSyntax}, {"+1", "", 0, api.ErrSyntax}, {".5", "", 0, api.ErrSyntax}, {"+", "", 0, api.ErrSyntax}, {".", "", 0, api.ErrSyntax},
		{"1.", "", 0, api.ErrTruncated}, {"-", "", 0, api.ErrTruncated}, {"1e", "", 0, api.ErrTruncated}, {"1e-", "", 0, api.ErrTruncated}, {"-0.", "", 0, api.ErrTruncated}, {"1. ", "", 0, api.ErrSyntax}, {"-]", "", 0, api.ErrSyntax}, {"1e5.", "", 0, api.ErrSyntax}, {"--", "", 0, api.ErrSyntax}, {"1e999", "1e999", api.TokWord, 0},
		{"é", "", 0, api.ErrSyntax}, {"\xff", "", 0, api.ErrSyntax}, {"#", "", 0, api.ErrSyntax}, {"\x00", "", 0, api.ErrSyntax}, {"'", "", 0, api.ErrSyntax},
	}
	for _, test := range tests {
		for _, before := range []string{"", "\xff\""} {
			got, err := Next(before+test.src, len(before))
			want := api.Token{Kind: test.kind, Text: test.text}
			if test.err == api.OK {
				want.At = len(before)
			}
			if err != test.err || got != want {
				t.Errorf("Next(%q) = %v, %v", test.src, got, err)
			}
		}
	}
	for at, want := range map[int]api.Errno{-1: api.ErrArg, 2: api.ErrArg, 1: api.ErrNotFound, 0: api.OK} {
		if _, err := Next("1", at); err != want {
			t.Error(at, err)
		}
	}
}

// P19.2, P19.3
func TestTokens(t *testing.T) {
	list, at, err := Tokens(`{a: t"10:00:00", /*x*/ -1.5e3}`)
	if err != api.OK || at != 0 {
		t.Fatal(at, err)
	}
	texts := []string{"{", "a", ":", " ", `t"10:00:00"`, ",", " ", "/*x*/", " ", "-1.5e3", "}"}
	kinds := []int{4, 6, 4, 1, 5, 4, 1, 3, 1, 6, 4}
	offset := 0
	for i, token := range list {
		if token.Text != texts[i] || token.Kind != kinds[i] || token.At != offset {
			t.Error(token)
		}
		offset += len(token.Text)
	}
	if len(list) != len(texts) || Join(list) != `{a: t"10:00:00", /*x*/ -1.5e3}` || Join([]api.Token{{Text: "x\xff"}, {}, {Text: "y", At: -1}}) != "x\xffy" {
		t.Error("Join")
	}
	for _, test := range []struct {
		src string
		at  int
		err api.Errno
	}{
		{"", 0, 0}, {"1.", 2, api.ErrTruncated}, {"[-", 2, api.ErrTruncated}, {" 01", 1, api.ErrSyntax}, {"1 \"\\x\" \xff", 7, api.ErrText}, {"\"\ufffd\" é\xc3", 8, api.ErrText},
		{"[ \"\x01\"", 2, api.ErrText}, {"[ \"abc", 6, api.ErrTruncated}, {strings.Repeat(" ", api.MaxInput), 0, 0}, {strings.Repeat("\xff", api.MaxInput+1), 0, api.ErrSize},
	} {
		list, at, err := Tokens(test.src)
		if at != test.at || err != test.err || err != api.OK && list != nil {
			t.Errorf("Tokens(%.20q) = %d, %v", test.src, at, err)
		}
	}
}

// P19.4, P19.5
func TestQuote(t *testing.T) {
	for s, want := range map[string]string{"": `""`, "a\"\\/": `"a\"\\/"`, "\b\f\n\r\t": `"\b\f\n\r\t"`, "\"\aé": `"\"\u0007é"`, "\x00\x1f\x7f": "\"\\u0000\\u001f\x7f\"", "\U0001f600\ufffd": "\"\U0001f600\ufffd\""} {
		got, err := Quote(s)
		if got != want || err != api.OK {
			t.Errorf("Quote(%q) = %s", s, got)
		}
		back, err := Unquote(got)
		if back != s || err != api.OK {
			t.Errorf("Unquote(%s) = %q, %v", got, back, err)
		}
	}
	if s, err := Quote("a\xff"); s != "" || err != api.ErrText {
		t.Error(err)
	}
	for s, want := range map[string]string{`"\/\u0041\u00e9\uD83D\uDE00\udbff\udfff"`: "/Aé\U0001f600\U0010ffff", `"\u0000"`: "\x00", `"\uFFFD\ud7ff\ue000"`: "\ufffd\ud7ff\ue000"} {
		if got, err := Unquote(s); got != want || err != api.OK {
			t.Errorf("Unquote(%s) = %q, %v", s, got, err)
		}
	}
	for s, want := range map[string]api.Errno{"": api.ErrTruncated, "a": api.ErrSyntax, `t"a"`: api.ErrSyntax, `"a`: api.ErrTruncated, `"\q`: api.ErrSyntax, "\"\x01": api.ErrText, `"a" `: api.ErrSyntax, `"a""`: api.ErrSyntax, "\"a\"\xff": api.ErrSyntax, " \"\"": api.ErrSyntax} {
		if got, err := Unquote(s); got != "" || err != want {
			t.Errorf("Unquote(%s) = %q, %v", s, got, err)
		}
	}
}

// P19.6, P19.7
func TestNumberBare(t *testing.T) {
	for _, s := range []string{"0", "-0", "1.50", "-12.5e-3", "1E5", "1e+5", "1e999", "1e-999", "9e99999999999999999999"} {
		d, err := Number(s)
		want, e := decimal.Parse(s)
		if d != want || err != e {
			t.Error(s, err)
		}
	}
	if _, err := Number("1e999"); err != api.ErrRange {
		t.Error(err)
	}
	for _, s := range []string{"", "-", "01", "1.", ".1", "1e", "+1", "1 ", " 1", "a", "0x1", "1_0"} {
		if _, err := Number(s); err != api.ErrSyntax {
			t.Error(s, err)
		}
	}
	for s, want := range map[string]bool{"a": true, "_": true, "$": true, "A0_$z": true, "null": true, "": false, "0": false, "a-b": false, "é": false, "a b": false, "aé": false, "a.b": false} {
		if Bare(s) != want {
			t.Error(s)
		}
	}
}

// P19.8
func TestCutSources(t *testing.T) {
	r := rand.New(rand.NewSource(1))
	pieces := []string{"[", "]", "{a:", "é", "\"", "\\u00e9", "\\", "//x\n", "/* */", "/*", "*/", "1", "-1.5e+3 ", "true", " ", "\r\n", "\n", "t\"", "b\"x\"", `"a\n\ud83d\ude00"`, "\"é\"", ",", "/", "."}
	good := 0
	for range 20000 {
		var b strings.Builder
		for range 1 + r.Intn(6) {
			b.WriteString(pieces[r.Intn(len(pieces))])
		}
		src := b.String()
		list, _, err := Tokens(src)
		if err != api.OK {
			continue
		}
		good++
		at := 0
		for _, token := range list {
			if token.At != at || token.Text == "" {
				t.Fatalf("%q: %v", src, list)
			}
			at += len(token.Text)
		}
		if Join(list) != src {
			t.Fatalf("%q", src)
		}
		for cut := range src {
			if !utf8.RuneStart(src[cut]) {
				continue
			}
			if _, at, err := Tokens(src[:cut]); err != api.OK && (err != api.ErrTruncated || at != cut) {
				t.Fatalf("%q cut at %d: %v", src, cut, err)
			}
		}
	}
	if good < 1000 {
		t.Error(good)
	}
}
