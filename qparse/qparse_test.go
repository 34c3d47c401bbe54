package qparse

import (
	"math/rand"
	"reflect"
	"strings"
	"testing"

	"datakit/api"
	"datakit/value"
)

func num(n int) api.Expr      { return api.Expr{Op: api.QLit, Val: value.Int(n)} }
func str(s string) api.Expr   { return api.Expr{Op: api.QLit, Val: value.Text(s)} }
func id() api.Expr            { return api.Expr{Op: api.QIdentity} }
func field(n string) api.Expr { return withName(api.QField, n, id()) }

// P36.3, P36.4
func TestParse(t *testing.T) {
	for src, want := range map[string]api.Expr{
		".a[0] | . + 1":   node(api.QPipe, node(api.QIndex, field("a"), num(0)), withName(api.QArith, "+", id(), num(1))),
		"{a: 1, (.b): 2}": node(api.QMap, str("a"), num(1), field("b"), num(2)),
		". and true":      node(api.QAnd, id(), api.Expr{Op: api.QLit, Val: value.Bool(true)}),
		".and":            field("and"), ".": id(), "..": node(api.QRecurse), ".\"a b\"": field("a b"), "$x": withName(api.QVar, "x"), "-1": node(api.QNeg, num(1)), "try .": node(api.QTry, id(), absent()), ".?": node(api.QTry, id(), absent()), "try . catch 1": node(api.QTry, id(), num(1)),
		"1 - 2 - 3": withName(api.QArith, "-", withName(api.QArith, "-", num(1), num(2)), num(3)), "1, 2, 3": node(api.QComma, node(api.QComma, num(1), num(2)), num(3)), "1 // 2 // 3": node(api.QAlt, num(1), node(api.QAlt, num(2), num(3))), ". | . | 1": node(api.QPipe, id(), node(api.QPipe, id(), num(1))),
		"1 * 2 + 3 == 4 and 5 or 6 = 7": node(api.QAssign, node(api.QOr, node(api.QAnd, withName(api.QCompare, "==", withName(api.QArith, "+", withName(api.QArith, "*", num(1), num(2)), num(3)), num(4)), num(5)), num(6)), num(7)),
		".a |= 1":                       node(api.QUpdate, field("a"), num(1)),
		"f(1; .)":                       withName(api.QCall, "f", num(1), id()), "m::f": withName(api.QCall, "m::f"),
		". as $x | $x":                 withName(api.QBind, "x", id(), withName(api.QVar, "x")),
		"label $l | break $l":          withName(api.QLabel, "l", withName(api.QBreak, "l")),
		"def f: 1; def g($a; b): 2; f": {Op: api.QDef, Funcs: []api.Func{{Name: "f", Body: num(1)}, {Name: "g", Params: []api.Param{{Name: "a", Value: true}, {Name: "b"}}, Body: num(2)}}, Args: []api.Expr{withName(api.QCall, "f")}},
		"if . then 1 end":              node(api.QIf, id(), num(1), absent()), "if . then 1 else 2 end": node(api.QIf, id(), num(1), num(2)),
		"reduce .[] as $x (0; .)": withName(api.QReduce, "x", node(api.QEach, id()), num(0), id()), "foreach . as $x (0; 1; 2)": withName(api.QForeach, "x", id(), num(0), num(1), num(2)), "foreach . as $x (0; 1)": withName(api.QForeach, "x", id(), num(0), num(1), absent()),
		".[1:2]": node(api.QSlice, id(), num(1), num(2)), ".[:2]": node(api.QSlice, id(), absent(), num(2)), ".[1:]": node(api.QSlice, id(), num(1), absent()), "[]": node(api.QList, absent()), "[1]": node(api.QList, num(1)), "{}": node(api.QMap), "{if: null, \"b\": 1 // 2}": node(api.QMap, str("if"), node(api.QLit), str("b"), node(api.QAlt, num(1), num(2))), "1.50": {Op: api.QLit, Val: value.Num(api.Decimal{Digits: "15", Exp: -1})},
		"1 .a": withName(api.QField, "a", num(1)), "..[]": node(api.QEach, node(api.QRecurse)), "(1)": num(1), "1, 2 | 3": node(api.QPipe, node(api.QComma, num(1), num(2)), num(3)), "1 as $x | 2, 3": withName(api.QBind, "x", num(1), node(api.QComma, num(2), num(3))), "- -1": node(api.QNeg, node(api.QNeg, num(1))),
	} {
		got, at, err := Parse(src)
		if err != api.OK || at != 0 || !reflect.DeepEqual(got, want) {
			t.Errorf("Parse(%q) = %v, %v at %d", src, got, err, at)
		}
	}
	for src, want := range map[string]string{
		"1 - (2 - 3)": "1 - (2 - 3)", "(1 - 2) - 3": "1 - 2 - 3", "(a | b) | c": "(a | b) | c", "a | (b | c)": "a | b | c", "{a: 1, (.b): 2}": `{"a": 1, (.b): 2}`, "(1,2)[]": "(1, 2)[]", "try (-1)": "(-1)?", "-(1+2)": "-(1 + 2)", "def f(a;$b):1;(def g:2;g)": "def f(a; $b): 1; (def g: 2; g)", "{a:(1,2)}": `{"a": (1, 2)}`, "[1|2]": "[1 | 2]", ".a.\"b c\".if[0][1:][:2][]?": `.a."b c".if[0][1:][:2][]?`, "f(1|2;3)": "f(1 | 2; 3)", "(1 as $x|2)+3": "(1 as $x | 2) + 3", "((1))": "1", "1 .a": "1.a", "(1 == 2) == 3": "(1 == 2) == 3", "(1//2)//3": "(1 // 2) // 3", "reduce .[] as $x(0;.)": "reduce .[] as $x (0; .)", "foreach (1,2) as $x(0;.)": "foreach (1, 2) as $x (0; .)", "if .then 1 else 2 end": "", "if . then 1 else 2 end": "if . then 1 else 2 end", "try . catch (1,2)": "try . catch (1, 2)", "label $a|break $a": "label $a | break $a", "(.a=1)|=2": "(.a = 1) |= 2", "1e3": "1000", `.["a"]`: `.["a"]`, "{(\"a\"): 1}": `{"a": 1}`, "(def f:1;f)[0]": "(def f: 1; f)[0]", "null,true,false,\"\\u0041\"": `null, true, false, "A"`, "a and (b or c)": "a and (b or c)", "a or b and c": "a or b and c", "2 % (3 * 4)": "2 % (3 * 4)", "(-1)[0]": "(-1)[0]", "..|..": ".. | ..",
	} {
		e, _, err := Parse(src)
		if want == "" {
			if err == api.OK {
				t.Error(src)
			}
			continue
		}
		got, err2 := Text(e)
		if err != api.OK || err2 != api.OK || got != want {
			t.Errorf("Text of %q: %q, %v %v", src, got, err, err2)
		}
	}
}

// P36.3: errors
func TestErrors(t *testing.T) {
	deep := strings.Repeat("(", 191)
	for _, test := range []struct {
		src string
		at  int
		err api.Errno
	}{
		{"a == b == c", 7, api.ErrSyntax}, {"if . then", 9, api.ErrTruncated}, {"1e999", 0, api.ErrRange}, {"", 0, api.ErrTruncated}, {" # x", 4, api.ErrTruncated}, {"1 2", 2, api.ErrSyntax}, {"1 as $x", 7, api.ErrTruncated}, {"1 + 2 as $x | .", 6, api.ErrSyntax}, {"-1 as $x | .", 3, api.ErrSyntax}, {"a . b", 2, api.ErrSyntax}, {". a", 2, api.ErrSyntax}, {".a::b", 1, api.ErrSyntax}, {".5", 1, api.ErrSyntax}, {".$x", 1, api.ErrSyntax}, {"f()", 2, api.ErrSyntax}, {"f(1;)", 4, api.ErrSyntax}, {"[1", 2, api.ErrTruncated}, {"{a}", 2, api.ErrSyntax}, {"{a:1,}", 5, api.ErrSyntax}, {"{$a:1}", 1, api.ErrSyntax}, {"{m::f:1}", 1, api.ErrSyntax}, {"{a: 1 | 2}", 6, api.ErrSyntax}, {"and", 0, api.ErrSyntax}, {"then", 0, api.ErrSyntax}, {"def f: 1;", 9, api.ErrTruncated}, {"def f(): 1; 2", 6, api.ErrSyntax}, {"def if: 1; 2", 4, api.ErrSyntax}, {"def m::f: 1; 2", 4, api.ErrSyntax}, {"def f 1; 2", 6, api.ErrSyntax}, {".[:]", 3, api.ErrSyntax}, {"label x | 1", 6, api.ErrSyntax}, {"break", 5, api.ErrTruncated}, {"reduce . as $x (1)", 17, api.ErrSyntax}, {"reduce . as $x (1; 2; 3)", 20, api.ErrSyntax}, {"foreach . as $x (1; 2; 3; 4)", 24, api.ErrSyntax}, {"try", 3, api.ErrTruncated}, {"try -1", 4, api.ErrSyntax}, {"if 1 then 2 else 3", 18, api.ErrTruncated}, {"1 = 2 = 3", 6, api.ErrSyntax}, {"1 == 2 < 3", 7, api.ErrSyntax}, {"@", 0, api.ErrSyntax}, {"a @", 2, api.ErrSyntax}, {"1 \"", 3, api.ErrTruncated}, {"\xff", 0, api.ErrText}, {"(1", 2, api.ErrTruncated}, {"1)", 1, api.ErrSyntax}, {"1 ;", 2, api.ErrSyntax}, {"1e999 )", 0, api.ErrRange}, {"[1e999", 1, api.ErrRange}, {"import a; 1", 0, api.ErrSyntax},
		{"\"" + strings.Repeat("x", api.MaxText+1) + "\"", 0, api.ErrSize}, {"{a: \"" + strings.Repeat("x", api.MaxText+1) + "\"", 4, api.ErrSize}, {"." + strings.Repeat("k", 1025), 0, api.ErrName}, {"1, $" + strings.Repeat("k", 65), 0, api.ErrName}, {"def f: 1; def f: 2; 3", 0, api.ErrExists}, {"def f(a; $a): 1; 3", 0, api.ErrExists}, {"f(1;2;3;4;5;6;7;8;9)", 0, api.ErrArg}, {"f(1;2;3;4;5;6;7;8)", 0, 0},
		{deep + "1" + strings.Repeat(")", 191), 0, api.OK}, {deep + "(1", 192, api.ErrDepth}, {deep + "()", 192, api.ErrDepth}, {deep + "(", 192, api.ErrTruncated}, {strings.Repeat("-", 191) + "1", 0, api.ErrDepth}, {strings.Repeat("-", 192) + "1", 192, api.ErrDepth}, {strings.Repeat("-", 47) + "1", 0, 0}, {strings.Repeat("-", 48) + "1", 0, api.ErrDepth}, {strings.Repeat("1|", 192) + "1", 384, api.ErrDepth}, {strings.Repeat("1//", 300000) + "1", 0, api.ErrDepth}, {strings.Repeat("1+", 300000) + "1", 0, api.ErrDepth}, {"[" + strings.Repeat("1,", 10000) + "1]", 0, api.ErrDepth}, {strings.Repeat("x", api.MaxInput+1), 0, api.ErrSize},
	} {
		e, at, err := Parse(test.src)
		if at != test.at || err != test.err || err != api.OK && !reflect.DeepEqual(e, api.Expr{}) {
			t.Errorf("Parse(%.30q): %v at %d, not %v at %d", test.src, err, at, test.err, test.at)
		}
	}
	wide := "{" + strings.Repeat("a: 1, ", 2047) + "b: 1}"
	if _, _, err := Parse(wide); err != api.ErrSize {
		t.Error(err)
	}
	if e, _, err := Parse("{" + strings.Repeat("a: 1, ", 2046) + "b: 1}"); err != api.OK || Size(e) != 4095 {
		t.Error(err, Size(e))
	}
}

// P36.1, P36.2
func TestCheck(t *testing.T) {
	fn := func(f ...api.Func) api.Expr { return api.Expr{Op: api.QDef, Funcs: f, Args: []api.Expr{id()}} }
	many := make([]api.Param, 9)
	for i, test := range []struct {
		e   api.Expr
		err api.Errno
	}{
		{api.Expr{}, api.ErrArg}, {absent(), api.ErrArg}, {api.Expr{Op: 31}, api.ErrArg}, {api.Expr{Op: -1}, api.ErrArg}, {node(api.QIdentity, id()), api.ErrArg}, {withName(api.QIdentity, "a"), api.ErrArg}, {api.Expr{Op: api.QIdentity, Val: value.Int(1)}, api.ErrArg}, {api.Expr{Op: api.QIdentity, Val: api.Value{Text: "x"}}, api.ErrArg}, {api.Expr{Op: api.QIdentity, Funcs: []api.Func{{}}}, api.ErrArg}, {node(api.QPipe, id()), api.ErrArg}, {node(api.QPipe, id(), absent()), api.ErrArg}, {node(api.QTry, id(), absent()), api.OK}, {node(api.QTry, absent(), id()), api.ErrArg}, {node(api.QTry, id(), withName(api.QNone, "x")), api.ErrArg}, {node(api.QTry, id()), api.ErrArg}, {node(api.QSlice, id(), absent(), absent()), api.ErrArg}, {node(api.QSlice, id(), absent(), id()), api.OK},
		{num(1), api.OK}, {num(-1), api.ErrArg}, {api.Expr{Op: api.QLit, Val: value.List()}, api.ErrArg}, {api.Expr{Op: api.QLit, Val: value.Bytes(nil)}, api.ErrArg}, {str("\xff"), api.ErrText}, {api.Expr{Op: api.QLit, Val: api.Value{Kind: api.VNum, Num: api.Decimal{Neg: true}}}, api.ErrArg}, {api.Expr{Op: api.QLit, Val: api.Value{Kind: api.VNum, Num: api.Decimal{Digits: "10"}}}, api.ErrRange}, {api.Expr{Op: api.QLit, Val: api.Value{Text: "x"}}, api.ErrKind}, {api.Expr{Op: api.QLit, Name: "x"}, api.ErrArg}, {api.Expr{Op: api.QLit, Val: api.Value{Kind: 9}}, api.ErrArg},
		{withName(api.QVar, ""), api.ErrName}, {withName(api.QVar, "if"), api.ErrName}, {withName(api.QVar, "$x"), api.ErrName}, {withName(api.QField, "", id()), api.OK}, {withName(api.QField, "\xff", id()), api.ErrName}, {withName(api.QField, strings.Repeat("k", 1025), id()), api.ErrName}, {withName(api.QArith, "**", id(), id()), api.ErrArg}, {withName(api.QArith, "", id(), id()), api.ErrArg}, {withName(api.QArith, "==", id(), id()), api.ErrArg}, {withName(api.QCompare, "+", id(), id()), api.ErrArg}, {withName(api.QCall, "a::b"), api.OK}, {withName(api.QCall, "a::"), api.ErrName}, {withName(api.QCall, "a::b::c"), api.ErrName}, {withName(api.QCall, "if::b"), api.ErrName}, {node(api.QMap, id()), api.ErrArg}, {node(api.QMap), api.OK}, {node(api.QMap, id(), absent()), api.ErrArg}, {node(api.QList, absent()), api.OK}, {node(api.QList), api.ErrArg}, {withName(api.QForeach, "x", id(), id(), id(), absent()), api.OK}, {withName(api.QForeach, "x", id(), id(), id()), api.ErrArg}, {withName(api.QReduce, "x", id(), id(), absent()), api.ErrArg}, {node(api.QIf, id(), id(), absent()), api.OK},
		{fn(), api.ErrArg}, {fn(api.Func{Name: "f", Body: id()}), api.OK}, {fn(api.Func{Name: "if", Body: id()}), api.ErrName}, {fn(api.Func{Name: "f", Params: many, Body: id()}), api.ErrSize}, {fn(api.Func{Name: "f", Params: many[:1], Body: id()}), api.ErrName}, {fn(api.Func{Name: "f", Params: []api.Param{{Name: "a"}, {Name: "a", Value: true}}, Body: absent()}), api.ErrExists}, {fn(api.Func{Name: "f", Body: id()}, api.Func{Name: "f", Body: absent()}), api.ErrExists}, {fn(api.Func{Name: "f", Body: absent()}, api.Func{Name: "f", Body: id()}), api.ErrArg}, {fn(make([]api.Func, 257)...), api.ErrSize}, {api.Expr{Op: api.QDef, Funcs: []api.Func{{Name: "f", Body: absent()}}, Args: []api.Expr{withName(api.QVar, "")}}, api.ErrArg},
	} {
		if err := Check(test.e); err != test.err {
			t.Errorf("%d: Check(%v) = %v", i, test.e, err)
		}
		if s, err := Text(test.e); err != test.err || err != api.OK && s != "" {
			t.Error(i, s, err)
		}
	}
	deep := id()
	for range 47 {
		deep = node(api.QNeg, deep)
	}
	if Check(deep) != api.OK || Size(deep) != 48 || Check(node(api.QNeg, deep)) != api.ErrDepth || Check(node(api.QTry, deep.Args[0], absent())) != api.OK {
		t.Error("depth")
	}
	list := node(api.QMap)
	for range 4094 {
		list.Args = append(list.Args, id())
	}
	if Check(list) != api.OK || Size(list) != 4095 {
		t.Error("size")
	}
	list.Args = append(list.Args, id(), id())
	if Check(list) != api.ErrSize {
		t.Error("size")
	}
	if n := Size(node(api.QTry, id(), absent())); n != 3 {
		t.Error(n)
	}
}

// P36.5, P36.6
func TestModule(t *testing.T) {
	src := "import a; import b as c;\ndef f($x): $x;\ndef g: f(1); # x\n"
	m, at, err := Module("m", src)
	want := api.Module{Name: "m", Imports: []api.Import{{Module: "a"}, {Module: "b", As: "c"}}, Funcs: []api.Func{{Name: "f", Params: []api.Param{{Name: "x", Value: true}}, Body: withName(api.QVar, "x")}, {Name: "g", Body: withName(api.QCall, "f", num(1))}}, Main: absent()}
	if err != api.OK || at != 0 || !reflect.DeepEqual(m, want) {
		t.Error(m, at, err)
	}
	if s, err := ModuleText(m); s != "import a;\nimport b as c;\ndef f($x): $x;\ndef g: f(1);\n" || err != api.OK {
		t.Errorf("%q", s)
	}
	m, _, err = Module("m", "def f: 1; def g: 2; f | g")
	if err != api.OK || len(m.Funcs) != 2 || m.Main.Op != api.QPipe {
		t.Error(m, err)
	}
	m.Main = api.Expr{Op: api.QDef, Funcs: m.Funcs, Args: []api.Expr{id()}}
	s, _ := ModuleText(m)
	if back, _, err := Module("m", s); err != api.OK || !reflect.DeepEqual(back, m) || !strings.Contains(s, "\n(def f: 1; def g: 2; .)\n") {
		t.Errorf("%q", s)
	}
	if m, _, err := Module("m", ""); err != api.OK || m.Main.Op != api.QNone {
		t.Error(err)
	}
	imports := strings.Repeat("import a;", 17)
	for _, test := range []struct {
		name, src string
		at        int
		err       api.Errno
	}{{"if", "\xff", 0, api.ErrName}, {"", "", 0, api.ErrName}, {"m", "import", 6, api.ErrTruncated}, {"m", "import a", 8, api.ErrTruncated}, {"m", "import a.b;", 8, api.ErrSyntax}, {"m", "import if;", 7, api.ErrSyntax}, {"m", "1; 2", 1, api.ErrSyntax}, {"m", "def f: 1; import a;", 10, api.ErrSyntax}, {"m", imports, 0, api.ErrSize}, {"m", imports[9:], 0, 0}, {"m", "import " + strings.Repeat("k", 65) + ";", 0, api.ErrName}, {"m", "def f: 1; def f: 2;", 0, api.ErrExists}, {"m", "\xff", 0, api.ErrText}, {"m", "def f(a; a): 1;", 0, api.ErrExists}, {"m", "def f: $" + strings.Repeat("k", 65) + ";", 0, api.ErrName}} {
		m, at, err := Module(test.name, test.src)
		if at != test.at || err != test.err || err != api.OK && !reflect.DeepEqual(m, api.Module{}) {
			t.Errorf("Module(%q): %v at %d", test.src, err, at)
		}
	}
	for _, test := range []struct {
		m   api.Module
		err api.Errno
	}{{api.Module{Name: "1", Imports: make([]api.Import, 99)}, api.ErrName}, {api.Module{Name: "m", Imports: []api.Import{{Module: "a", As: "if"}}}, api.ErrName}, {api.Module{Name: "m"}, api.ErrArg}, {api.Module{Name: "m", Main: withName(api.QNone, "x")}, api.ErrArg}, {api.Module{Name: "m", Funcs: make([]api.Func, 257), Main: absent()}, api.ErrSize}, {api.Module{Name: "m", Funcs: []api.Func{{Name: "f"}}, Main: absent()}, api.ErrArg}} {
		if s, err := ModuleText(test.m); s != "" || err != test.err {
			t.Error(s, err)
		}
	}
}

func random(r *rand.Rand, depth int) api.Expr {
	sub := func() api.Expr { return random(r, depth-1) }
	maybe := func() api.Expr {
		if r.Intn(2) == 0 {
			return absent()
		}
		return sub()
	}
	if depth == 0 {
		return []api.Expr{id(), node(api.QRecurse), num(7), str("a\n"), withName(api.QVar, "x"), withName(api.QBreak, "y"), node(api.QLit), field("a"), withName(api.QCall, "m::f")}[r.Intn(9)]
	}
	switch op := 5 + r.Intn(25); op {
	case api.QField:
		return withName(op, []string{"a", "if", "a b", ""}[r.Intn(4)], sub())
	case api.QEach, api.QNeg:
		return node(op, sub())
	case api.QSlice:
		if r.Intn(2) == 0 {
			return node(op, sub(), sub(), maybe())
		}
		return node(op, sub(), absent(), sub())
	case api.QArith:
		return withName(op, "+-*/%"[r.Intn(5):][:1], sub(), sub())
	case api.QCompare:
		return withName(op, []string{"==", "!=", "<", "<=", ">", ">="}[r.Intn(6)], sub(), sub())
	case api.QTry:
		return node(op, sub(), maybe())
	case api.QIf:
		return node(op, sub(), sub(), maybe())
	case api.QReduce:
		return withName(op, "x", sub(), sub(), sub())
	case api.QForeach:
		return withName(op, "x", sub(), sub(), sub(), maybe())
	case api.QCall:
		e := withName(op, "f")
		for range r.Intn(3) {
			e.Args = append(e.Args, sub())
		}
		return e
	case api.QBind:
		return withName(op, "z", sub(), sub())
	case api.QDef:
		return api.Expr{Op: op, Funcs: []api.Func{{Name: "f", Params: []api.Param{{Name: "p"}, {Name: "q", Value: true}}, Body: sub()}, {Name: "g", Body: sub()}}[r.Intn(2):], Args: []api.Expr{sub()}}
	case api.QList:
		return node(op, maybe())
	case api.QMap:
		e := node(op)
		for range r.Intn(3) {
			e.Args = append(e.Args, sub(), sub())
		}
		return e
	case api.QLabel:
		return withName(op, "l", sub())
	case api.QBreak, api.QNone:
		return random(r, 0)
	default:
		return node(op, sub(), sub())
	}
}

// P36.7
func TestBack(t *testing.T) {
	r := rand.New(rand.NewSource(1))
	seen := map[string]api.Expr{}
	for range 20000 {
		e := random(r, 1+r.Intn(4))
		if Check(e) != api.OK {
			continue
		}
		s, err := Text(e)
		back, _, err2 := Parse(s)
		if err != api.OK || err2 != api.OK || !reflect.DeepEqual(back, e) {
			t.Fatalf("%q: %v", s, err2)
		}
		if other, ok := seen[s]; ok && !reflect.DeepEqual(other, e) {
			t.Fatal(s)
		}
		seen[s] = e
	}
	if len(seen) < 5000 {
		t.Error(len(seen))
	}
}
