package script

import (
	"math/rand"
	"reflect"
	"strings"
	"testing"

	"datakit/api"
	"datakit/canon"
	"datakit/reader"
	"datakit/value"
)

// P59.1
func TestLines(t *testing.T) {
	name := strings.Repeat("a", api.MaxName)
	for _, test := range []struct {
		line string
		want api.Command
		err  api.Errno
	}{
		{"load 0 brace \"{a: 1}\"", api.Command{Name: "load", Args: []string{"0", "brace", "{a: 1}"}}, api.OK},
		{"x", api.Command{Name: "x"}, api.OK},
		{name, api.Command{Name: name}, api.OK},
		{name + "a", api.Command{}, api.ErrSyntax},
		{`x ""`, api.Command{Name: "x", Args: []string{""}}, api.OK},
		{`x "a\nb" "\"" é`, api.Command{}, api.ErrSyntax},
		{`x "a\nb" "\"" "é" \ ~ !`, api.Command{Name: "x", Args: []string{"a\nb", `"`, "é", `\`, "~", "!"}}, api.OK},
		{"x \"\x7f\" \"\\u0000\"", api.Command{Name: "x", Args: []string{"\x7f", "\x00"}}, api.OK},
		{"x \x7f", api.Command{}, api.ErrSyntax},
		{`x "a"`, api.Command{}, api.ErrSyntax},
		{`x "\u0061 "`, api.Command{}, api.ErrSyntax},
		{`x "\/ "`, api.Command{}, api.ErrSyntax},
		{`x "a b`, api.Command{}, api.ErrSyntax},
		{`x "a b"c`, api.Command{}, api.ErrSyntax},
		{`x a"b`, api.Command{}, api.ErrSyntax},
		{`x a"b c"`, api.Command{}, api.ErrSyntax},
		{"", api.Command{}, api.ErrSyntax},
		{" ", api.Command{}, api.ErrSyntax},
		{" x", api.Command{}, api.ErrSyntax},
		{"x ", api.Command{}, api.ErrSyntax},
		{"x  a", api.Command{}, api.ErrSyntax},
		{"x a ", api.Command{}, api.ErrSyntax},
		{"x\ta", api.Command{}, api.ErrSyntax},
		{"X a", api.Command{}, api.ErrSyntax},
		{"x1", api.Command{}, api.ErrSyntax},
		{"x a\n", api.Command{}, api.ErrSyntax},
		{"x \xff", api.Command{}, api.ErrText},
		{"\xff", api.Command{}, api.ErrText},
		{"x " + strings.Repeat("a", api.MaxLine-2), api.Command{Name: "x", Args: []string{strings.Repeat("a", api.MaxLine-2)}}, api.OK},
		{"x " + strings.Repeat("a", api.MaxLine-1), api.Command{}, api.ErrSize},
		{"\xff" + strings.Repeat(" ", api.MaxLine), api.Command{}, api.ErrSize},
	} {
		got, err := Parse(test.line)
		if err != test.err || !reflect.DeepEqual(got, test.want) {
			t.Error(len(test.line), test.line[:min(40, len(test.line))], err)
		}
		if err != api.OK {
			continue
		}
		if back, err := Text(got); err != api.OK || back != test.line {
			t.Error(test.line, back, err)
		}
	}
}

// P59.1
func TestTextErrors(t *testing.T) {
	for _, test := range []struct {
		c    api.Command
		want api.Errno
	}{
		{api.Command{}, api.ErrArg},
		{api.Command{Name: "A"}, api.ErrArg},
		{api.Command{Name: "a b"}, api.ErrArg},
		{api.Command{Name: "é", Args: []string{"\xff"}}, api.ErrArg},
		{api.Command{Name: strings.Repeat("a", api.MaxName+1)}, api.ErrArg},
		{api.Command{Name: "a", Args: []string{"b", "\xff", strings.Repeat("a", api.MaxLine)}}, api.ErrText},
		{api.Command{Name: "a", Args: []string{strings.Repeat("a", api.MaxLine-2)}}, api.OK},
		{api.Command{Name: "a", Args: []string{strings.Repeat("a", api.MaxLine-1)}}, api.ErrSize},
		{api.Command{Name: "a", Args: []string{strings.Repeat(" ", api.MaxText+1)}}, api.ErrSize},
	} {
		if got, err := Text(test.c); err != test.want || err != api.OK && got != "" {
			t.Error(test.c.Name, err, test.want)
		}
	}
}

// P59.5
func TestInverse(t *testing.T) {
	r := rand.New(rand.NewSource(1))
	for range 20000 {
		c := api.Command{Name: "x"}
		for range r.Intn(4) {
			arg := ""
			for range r.Intn(5) {
				arg += []string{"a", "\"", " ", "\\", "é", "\n", "\x00", "\x7f", "\u2028", "\U0001f600", "{", "/"}[r.Intn(12)]
			}
			c.Args = append(c.Args, arg)
		}
		line, err := Text(c)
		if err != api.OK {
			t.Fatal(c, err)
		}
		if back, err := Parse(line); err != api.OK || !reflect.DeepEqual(back, c) {
			t.Fatal(line, back, err)
		}
		for _, arg := range c.Args {
			quoted, _ := canon.Text(value.Text(arg))
			if got, _ := written(arg); got != quoted && got != arg {
				t.Fatal(arg, got)
			}
		}
		cut := []byte(line)
		cut[r.Intn(len(cut))] = " \"\\nax"[r.Intn(6)]
		if c, err := Parse(string(cut)); err == api.OK {
			if back, _ := Text(c); back != string(cut) {
				t.Fatal(string(cut))
			}
		}
	}
}

// session runs lines whose answers must be those after the line, in one text.
func session(t *testing.T, pairs ...string) *Session {
	t.Helper()
	s := New()
	for i := 0; i < len(pairs); i += 2 {
		want := strings.ReplaceAll(pairs[i+1], "|", "\n") + "\n"
		if got := s.Do(pairs[i]); got != want {
			t.Errorf("%s: %q, not %q", pairs[i], got, want)
		}
	}
	return s
}

// P59.2, the examples
func TestExamples(t *testing.T) {
	session(t,
		`load 0 brace "{a: 1}"`, "ok",
		"value 0", `ok {"a":1}`,
		"get 0 .b", "error not found",
		"load 1 brace [1,,]", "error syntax 1:4",
		"set 0 .a 2", "ok",
		"show 0", `ok "{a: 2}"`,
		`run 0 ".a, .b"`, "out 2|out null|ok",
		"run 0 error(.)", `error user {"a":2}`,
	)
}

// P59.2
func TestErrors(t *testing.T) {
	session(t,
		"", "error syntax",
		"\xff", "error text",
		strings.Repeat("a", api.MaxLine+1), "error size",
		"unknown", "error name",
		"unknown 1 2 3", "error name",
		"drop", "error arity",
		"drop 0 1", "error arity",
		"load 0 brace", "error arity",
		"drop 0", "error not found",
		"drop 16", "error range",
		"drop -1", "error range",
		"drop 00", "error range",
		"drop +0", "error range",
		`drop ""`, "error range",
		"drop x", "error range",
		"drop 99999999999999999999", "error range",
		"load 16 xml [", "error range",
		"load 15 xml [", "error kind",
		"load 15 Brace []", "error kind",
		"load 15 brace [", "error truncated 1:2",
		"load 15 brace []", "ok",
		"load 15 brace \"\\n [\"", "error truncated 2:3",
		"value 15", "ok []",
		"get 15 a", "error syntax",
		"get 0 a", "error not found",
		"set 15 a 1,", "error syntax",
		"set 15 . 1,", "error syntax",
		"set 15 . [1,]", "error syntax",
		"set 15 . \"[1, 2]\"", "error syntax",
		"set 15 . \"[1\"", "error syntax",
		"set 15 .a 1", "error kind",
		"index 15 0", "error range",
		"index 15 49", "error range",
		"index 15 01", "error range",
		"index 15 48", `entry index brace 2 48|ok`,
		"convert 15 xml 16", "error kind",
		"convert 15 table 16", "error range",
	)
	var none *Session
	if got := none.Do("drop 0"); got != "error state\n" {
		t.Error(got)
	}
	if got := none.Do(""); got != "error state\n" {
		t.Error(got)
	}
}

// P59.2
func TestDocuments(t *testing.T) {
	session(t,
		`load 0 brace "{a: 1, /* one */ b: [1, 2], \"c d\": 1.50} // two"`, "ok",
		"show 0", `ok "{a: 1, /* one */ b: [1, 2], \"c d\": 1.50} // two"`,
		"value 0", `ok {"a":1,"b":[1,2],"c d":1.5}`,
		"get 0 .b[1]", "ok 2",
		"get 0 .", `ok {"a":1,"b":[1,2],"c d":1.5}`,
		`get 0 ".\"c d\""`, "ok 1.5",
		"get 0 .b[2]", "error not found",
		"notes 0", "note one|note two|ok",
		"insert 0 .b[0] null", "ok",
		"get 0 .b", "ok [null,1,2]",
		"insert 0 .b[9] null", "error not found",
		"remove 0 .a", "ok",
		"remove 0 .a", "error not found",
		"rename 0 .b \"x y\"", "ok",
		`rename 0 ".\"x y\"" "c d"`, "error exists",
		"value 0", `ok {"c d":1.5,"x y":[null,1,2]}`,
		"compact 0", "ok",
		"show 0", `ok "{\"x y\":[null,1,2],\"c d\":1.50}"`,
		"format 0", "ok",
		"show 0", `ok "{\n  \"x y\": [\n    null,\n    1,\n    2\n  ],\n  \"c d\": 1.50\n}\n"`,
		"notes 0", "ok",
		"drop 0", "ok",
		"show 0", "error not found",
		`load 1 indent "a: 1 # x y\nb: &n [1]\nc: *n\n"`, "ok",
		"notes 1", `note "x y"|ok`,
		"convert 1 table 2", "loss . comment|loss .c alias|ok",
		"value 2", `ok {"a":1,"b":[1],"c":[1]}`,
		"convert 1 delim 3", `loss . comment|loss .c alias|loss . shape|loss .b nest|loss .c nest|ok`,
		"value 3", `ok [{"a":1,"b":"[1]","c":"[1]"}]`,
		"load 4 brace 7", "ok",
		"convert 4 table 4", "loss . shape|ok",
		"show 4", `ok "value = 7\n"`,
		`load 5 delim "a,b\n1,x\n"`, "ok",
		"set 5 .[0].b true", "ok",
		"show 5", `ok "a,b\n1,true\n"`,
		"index 5 2", `entry index delim 11 2|entry column "a"|entry column "b"|entry 4 10 .[0]|entry 4 5 .[0].a|entry 6 10 .[0].b|ok`,
		"index 1 1", "error argument",
		`load 6 brace "\"\\n\""`, "ok",
		"show 6", `ok "\"\\n\""`,
		"load 6 brace [[1],{b:2}]", "ok",
		"index 6 1", "entry index brace 11 1|entry 1 4 .[0]|entry 5 10 .[1]|ok",
	)
}

// P59.2
func TestQueries(t *testing.T) {
	session(t,
		"load 0 brace [1,2]", "ok",
		`run 0 ".[] | . + 1"`, "out 2|out 3|ok",
		`stream 0 ".[] | . + 1"`, "out 2|out 3|ok",
		"run 0 empty", "ok",
		"run 0 .[", "error truncated",
		"stream 0 .[", "error truncated",
		"run 0 nothing", "error name",
		"stream 0 nothing", "error name",
		"run 0 .[]|(.,error(\"x\"))", "error syntax",
		`run 0 ".[] | (., error(\"x y\"))"`, `out 1|error user "x y"`,
		`stream 0 ".[] | (., error(\"x y\"))"`, `out 1|error user "x y"`,
		"run 0 .a", "error kind",
		`run 0 "1, .a"`, "out 1|error kind",
		`stream 0 "1, .a"`, "error stream",
		`run 0 "def f: f; f"`, "error fuel",
		`run 0 "range(0; 5000)"`, longRun(),
		`stream 0 ".[] | range(0; 5000)"`, longRun(),
		`stream 0 "reduce .[] as $x (0; . + $x)"`, "out 3|ok",
		"run 1 .", "error not found",
		`run 0 "import \"x\" as x; ."`, "error syntax",
	)
}

// longRun is the answer to a query with too many outputs.
func longRun() string {
	var out strings.Builder
	for i := range api.MaxOutputs {
		text, _ := canon.Text(value.Int(i))
		out.WriteString("out " + text + "|")
	}
	return out.String() + "error fuel"
}

// P59.2
func TestSchemas(t *testing.T) {
	session(t,
		"load 0 brace [1,2,3]", "ok",
		"infer 0 1", "ok",
		"load 2 brace 9", "ok",
		"infer 2 1", "error kind",
		"check 2 1", "fail . number|ok false",
		"load 3 brace 2", "ok",
		"check 3 1", "ok true",
		"check 3 0", "error syntax",
		"infer 0 16", "error range",
		"load 4 brace []", "ok",
		"infer 4 4", "error argument",
	)
}

// P59.2
func TestChanges(t *testing.T) {
	session(t,
		`load 0 indent "a: 1 # x\nb: 2\n"`, "ok",
		`load 1 brace "{a: 3, b: 2, c: []}"`, "ok",
		"diff 0 1 2", "ok 2",
		"diff 0 0 3", "ok 0",
		"value 3", "ok []",
		"patch 0 2", "ok",
		"value 0", `ok {"a":3,"b":2,"c":[]}`,
		"notes 0", "note x|ok",
		"patch 0 2", "error match 0",
		"patch 0 0", "error kind",
		"patch 0 3", "ok",
		"load 4 brace {a:3}", "ok",
		"load 5 brace {a:4}", "ok",
		`load 6 brace "{a: 5, b: 1}"`, "ok",
		"merge 4 4 6 7", "ok",
		"value 7", `ok {"a":5,"b":1}`,
		"merge 4 5 6 7", "conflict .a|ok",
		"value 7", `ok {"a":4,"b":1}`,
		"merge 4 5 16 7", "error range",
		"merge 4 5 8 7", "error not found",
	)
	s := New()
	s.Do("load 0 brace {a:1,b:2,c:3}")
	s.Do("load 1 brace {a:2,b:3,c:4}")
	s.Do("diff 0 1 2")
	s.Do("set 0 .b 7")
	before, _ := s.Doc(0)
	if got := s.Do("patch 0 2"); got != "error match 1\n" {
		t.Error(got)
	}
	if after, _ := s.Doc(0); !reflect.DeepEqual(before, after) {
		t.Error(after)
	}
}

// P59.3
func TestSlots(t *testing.T) {
	s := session(t, `load 3 brace "[1, [2]]"`, "ok")
	want, _, _ := reader.Parse(api.FmtBrace, "[1, [2]]", reader.Usual())
	d, ok := s.Doc(3)
	v, found := s.Value(3)
	if !ok || !found || !reflect.DeepEqual(d, want) || !reflect.DeepEqual(v.List[1].List[0], value.Int(2)) {
		t.Error(d, v)
	}
	d.Tree.Kids[0].Text = "x"
	v.List[1].List[0] = value.Int(7)
	session := s
	if got := session.Do("show 3") + session.Do("value 3"); got != "ok \"[1, [2]]\"\nok [1,[2]]\n" {
		t.Error(got)
	}
	for _, slot := range []int{-1, 0, 2, 4, 15, 16, 1 << 62} {
		d, ok := s.Doc(slot)
		v, found := s.Value(slot)
		if ok || found || !reflect.DeepEqual(d, api.Doc{}) || !reflect.DeepEqual(v, api.Value{}) {
			t.Error(slot)
		}
	}
	var none *Session
	if _, ok := none.Doc(0); ok {
		t.Error("nil")
	}
	if _, ok := none.Value(0); ok {
		t.Error("nil")
	}
	for slot := range api.MaxSlots {
		if _, ok := New().Doc(slot); ok {
			t.Error(slot)
		}
	}
}

// P59.4
func TestRun(t *testing.T) {
	for _, test := range []struct{ text, want string }{
		{"", ""},
		{"\n\r\n\n", ""},
		{"load 0 brace 1\nvalue 0", "ok\nok 1\n"},
		{"load 0 brace 1\r\n\r\nvalue 0\r\n", "ok\nok 1\n"},
		{"value 0\r", "error syntax\n"},
		{"value 0\r\r\n", "error syntax\n"},
		{"\r", "error syntax\n"},
		{" \nvalue 0\n\xff\n", "error syntax\nerror not found\nerror text\n"},
	} {
		if got := Run(test.text); got != test.want {
			t.Errorf("%q: %q", test.text, got)
		}
		if got := Run(test.text); got != test.want {
			t.Errorf("%q: %q", test.text, got)
		}
	}
}

// P59.5, W13
func TestParts(t *testing.T) {
	r := rand.New(rand.NewSource(2))
	lines := []string{
		`load 0 brace "{a: 1, b: [1, 2]}"`, "load 1 brace [1,", "load 1 brace [1,2]", `load 2 indent "a: 1\n"`,
		"set 0 .a 2", "set 0 .x[0] 2", "insert 1 .[0] null", "remove 0 .b[0]", "rename 0 .a c", "rename 0 .c b",
		"format 0", "compact 0", "notes 0", "convert 0 indent 3", "convert 1 table 4", "run 0 .b[]", "stream 1 .[]",
		"infer 1 5", "check 0 5", "diff 0 1 6", "diff 0 2 6", "patch 0 6", "patch 2 6", "merge 0 1 2 7", "index 0 2",
		"drop 0", "drop 1", "show 0", "value 1", "", "bad line ",
	}
	for range 60 {
		var text, want strings.Builder
		s := New()
		for range 40 {
			line := lines[r.Intn(len(lines))]
			text.WriteString(line + "\n")
			if line == "" {
				continue
			}
			before := shown(s)
			answer := s.Do(line)
			want.WriteString(answer)
			if strings.Contains(answer, "error ") && shown(s) != before {
				t.Fatal(line, answer)
			}
		}
		if got := Run(text.String()); got != want.String() {
			t.Fatal(text.String())
		}
	}
}

// shown returns all that a session holds.
func shown(s *Session) string {
	out := ""
	for slot := range api.MaxSlots {
		d, _ := s.Doc(slot)
		v, _ := s.Value(slot)
		text, _ := canon.Text(v)
		out += reader.Print(d) + text + "\n"
	}
	return out
}
