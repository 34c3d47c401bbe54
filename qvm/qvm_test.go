package qvm

import (
	"math/rand"
	"reflect"
	"strings"
	"testing"

	"datakit/api"
	"datakit/brace"
	"datakit/limit"
	"datakit/module"
	"datakit/qcode"
	"datakit/qeval"
	"datakit/qparse"
	"datakit/value"
)

func val(t *testing.T, src string) api.Value {
	t.Helper()
	v, _, err := brace.Read(src, limit.Usual())
	if err != api.OK {
		t.Fatal(src, err)
	}
	return v
}

func show(o api.Outcome) string {
	var parts []string
	for _, v := range o.Out {
		s, _ := brace.Inline(v)
		parts = append(parts, s)
	}
	if o.Err == api.ErrUser {
		s, _ := brace.Inline(o.Val)
		parts = append(parts, "error "+s)
	} else if o.Err != api.OK {
		parts = append(parts, o.Err.Error())
	}
	return strings.Join(parts, "; ")
}

func op(o int, ab ...int) api.Instr {
	x := api.Instr{Op: o}
	if len(ab) > 0 {
		x.A = ab[0]
	}
	if len(ab) > 1 {
		x.B = ab[1]
	}
	return x
}
func push(n int) api.Instr                      { return api.Instr{Op: api.IPush, Val: value.Int(n)} }
func named(o int, name string, a int) api.Instr { return api.Instr{Op: o, Name: name, A: a} }
func code(ops ...api.Instr) api.Code            { return api.Code{Ops: ops} }

// P42.1, P42.2: the instructions, one by one
func TestInstructions(t *testing.T) {
	out := op(api.IOutput)
	for i, test := range []struct {
		c    api.Code
		in   string
		want string
	}{
		{code(op(api.IFork, 3), push(1), out, push(2), out), "0", "1; 2"}, {code(op(api.ITry, 3), push(1), op(api.IRaise, 14), out), "null", `"divide"`}, {code(op(api.IList, 3), op(api.IEach), op(api.ICollect), out), "[1, 2]", "[1, 2]"}, {code(out), "7", "7"}, {code(op(api.IDup)), "7", "state"}, {code(op(api.IPop), op(api.IPop)), "7", "state"}, {code(op(api.IPop), out), "7", "state"}, {code(push(2), op(api.ISwap), out), "7", "7"}, {code(op(api.ISwap), out), "7", "state"}, {code(op(api.ILoad, 0), out), "7", "state"}, {code(op(api.IStore, 5), op(api.ILoad, 5), out), "7", "7"}, {code(op(api.IStore, 5, 1), out), "7", "state"}, {code(named(api.IField, "a", 0), out), "{a: 5}", "5"}, {code(push(0), op(api.IIndex), out), "[8]", "8"}, {code(push(0), push(1), op(api.ISlice), out), "[8, 9]", "[8]"}, {code(op(api.IEach), out), "[]", ""}, {code(op(api.IEach), out), "1", "kind"}, {code(push(2), named(api.IArith, "-", 0), out), "7", "5"}, {code(push(2), named(api.ICompare, ">", 0), out), "7", "true"}, {code(named(api.IArith, "-", 0), out), "7", "state"},
		{code(named(api.IBuiltin, "track", 0), named(api.IField, "a", 0), named(api.IBuiltin, "path", 0), out), "{}", `["a"]`}, {code(named(api.IBuiltin, "path", 0), out), "{}", "path"}, {code(push(0), named(api.IBuiltin, "has", 1), out), "[1]", "true"}, {code(named(api.IBuiltin, "has", 1), out), "[1]", "state"}, {code(push(3), named(api.IBuiltin, "error", 1)), "0", "error 3"}, {code(op(api.IJump, 2), push(1), out), "7", "7"}, {code(op(api.IDup), op(api.IBranch, 3), push(1), out), "false", "false"}, {code(op(api.IDup), op(api.IBranch, 3), push(1), out), "0", "1"}, {code(op(api.IFail)), "0", ""}, {code(op(api.IReturn)), "0", "state"}, {code(op(api.ICall, 2), out, push(4), op(api.IReturn)), "0", "4"}, {code(op(api.IClosure, 3), op(api.ICall, 4, 1), out, push(6), op(api.IInvoke, 0), op(api.IReturn)), "0", "state"}, {code(op(api.IClosure, 3), op(api.ICall, 5, 1), out, push(6), op(api.IReturn), op(api.IInvoke, 0), op(api.IReturn)), "0", "6"}, {code(op(api.IClosure, 3), op(api.ICall, -1), out, push(6), op(api.IReturn)), "0", "6"}, {code(op(api.ICall, -1)), "0", "state"}, {code(op(api.ICall, 0, 1)), "0", "state"}, {code(op(api.IInvoke, 0)), "0", "state"}, {code(op(api.IClosure, 0), out), "0", "state"}, {code(op(api.IClosure, 0), op(api.IPop)), "0", "state"}, {code(op(api.IClosure, 0, 1)), "0", "state"}, {code(op(api.IClosure, 0), op(api.ITry, 0)), "0", "state"}, {code(op(api.IPop), op(api.IList, 0)), "0", "state"}, {code(op(api.ICall, 0)), "0", "fuel"},
		{code(op(api.IDone)), "0", "state"}, {code(op(api.ITry, 3), op(api.IDone), op(api.IRaise, 14), out), "0", "divide"}, {code(op(api.ITry, 4), op(api.ITry, 3), op(api.IRaise, 14), op(api.IRaise, 3), out), "0", `"syntax"`}, {code(op(api.ITry, 4), op(api.IFork, 3), op(api.IRaise, 14), push(1), out), "0", `"divide"`}, {code(op(api.IRaise, 19)), "0", "error null"}, {code(op(api.IMark, 0), op(api.IFork, 4), op(api.IFork, 5), op(api.IBreak, 0), push(1), push(2), out), "0", ""}, {code(op(api.IFork, 4), op(api.IMark, 0), op(api.IFork, 4), op(api.IBreak, 0), push(1), out), "0", "1"}, {code(op(api.IBreak, 0)), "0", "state"}, {code(op(api.IBreak, 0, 1)), "0", "state"}, {code(op(api.ICollect)), "0", "state"}, {code(api.Instr{Op: api.IPush, Val: value.Text("a")}, push(1), api.Instr{Op: api.IPush, Val: value.Text("a")}, push(2), op(api.IMap, 2), out), "0", "{a: 2}"}, {code(push(1), push(2), op(api.IMap, 1), out), "0", "kind"}, {code(op(api.IMap, 1), out), "0", "state"}, {code(op(api.IMap, 0), out), "0", "{}"},
	} {
		if got := show(Run(test.c, val(t, test.in), api.MaxFuel)); got != test.want {
			t.Errorf("%d: %s, not %s", i, got, test.want)
		}
	}
	if m, err := New(api.Code{}, api.Value{}); m != nil || err != api.ErrRange {
		t.Error(err)
	}
	if o := Run(api.Code{}, api.Value{}, 9); !reflect.DeepEqual(o, api.Outcome{Err: api.ErrRange}) {
		t.Error(o)
	}
}

// P42.2 to P42.4
func TestMachine(t *testing.T) {
	c := code(op(api.IFork, 3), push(1), op(api.IOutput), push(2), op(api.IOutput))
	m, _ := New(c, api.Value{})
	v, ok, err := m.Next(3)
	if !ok || err != api.OK || !value.Same(v, value.Int(1)) || m.Forks() != 1 || m.Steps() != 3 {
		t.Error(v, ok, err, m.Forks(), m.Steps())
	}
	v, ok, err = m.Next(2)
	if !ok || err != api.OK || !value.Same(v, value.Int(2)) || m.Forks() != 0 || m.Steps() != 5 {
		t.Error(v, ok, err)
	}
	for range 2 {
		if _, ok, err := m.Next(0); ok || err != api.OK {
			t.Error(ok, err)
		}
	}
	m, _ = New(c, api.Value{})
	if v, ok, err := m.Next(2); ok || err != api.ErrFuel || m.Steps() != 2 || m.Forks() != 0 || !value.Same(v, api.Value{}) {
		t.Error(ok, err)
	}
	if _, _, err := m.Next(99); err != api.ErrState {
		t.Error(err)
	}
	m, _ = New(code(op(api.IDup)), api.Value{})
	if _, _, err := m.Next(1); err != api.ErrState || m.Steps() != 1 {
		t.Error(err)
	}
	m, _ = New(code(push(4), named(api.IBuiltin, "error", 1)), api.Value{})
	if _, _, err := m.Next(-5); err != api.ErrFuel || m.Steps() != 0 || !value.Same(m.Raised(), api.Value{}) {
		t.Error(err)
	}
	m, _ = New(code(push(4), named(api.IBuiltin, "error", 1)), api.Value{})
	if _, _, err := m.Next(99); err != api.ErrUser || !value.Same(m.Raised(), value.Int(4)) {
		t.Error(err)
	}
	var none *Machine
	if _, ok, err := none.Next(1); ok || err != api.ErrState || none.Steps()+none.Forks() != 0 || !value.Same(none.Raised(), api.Value{}) {
		t.Error("nil")
	}
	if o := Run(c, api.Value{}, 4); show(o) != "1; fuel" || o.Steps != 4 {
		t.Error(show(o))
	}
	if o := Run(c, api.Value{}, 1<<50); show(o) != "1; 2" || o.Steps != 5 {
		t.Error(show(o))
	}
	loop := code(op(api.IFork, 2), op(api.IOutput), op(api.IJump, 0))
	if o := Run(loop, api.Value{}, api.MaxFuel); o.Err != api.ErrFuel || len(o.Out) != api.MaxOutputs || o.Steps != 3*api.MaxOutputs+2 {
		t.Error(o.Err, len(o.Out), o.Steps)
	}
}

const corpus = `.|..|.a|.[1]|.[-1, 0]|(.a, .b)[0, 1]|.[1:], .[:1], .[0:(1, 2)]|.[]|.[] + 1|1, error(2), 3|-(1, 2)|(1, 2) + (10, 20)|1 < (0, 2)|(true, false) and (1, null)|(true, null) or (1, null)|(null, 1, false, 2) // 3|(null, false) // (3, 4)|(1, error(7)) // 3|.[] // 9|try error(5) catch (. + 1)|try (1 / 0) catch .|(1, error(2), 3)?|try (1, error(2)) catch (., 3)|try error(1) catch error(2)|label $l ! try break $l catch 7|try (label $l ! 1, break $l, 2) catch 7|if (true, null) then 1 else 2 end|if false then 1 end|reduce .[] as $x (0; . + $x)|reduce .[] as $x ((0, 10); . + $x)|reduce .[] as $x (0; ., . + 1)|reduce .[] as $x (0; empty)|foreach .[] as $x (0; . + 1; [$x, .])|foreach .[] as $x (0; ., . + 1)|foreach (1, 2) as $x ((0, 10); . + $x; ., -.)|(1, 2) as $x ! $x, 10|. as $x ! [.[] ! [., $x]]|[]|[1, empty, 2]|[1, error(2)]|{a: 1, b: (2, 3)}|{("a", "b"): (1, 2)}|{a: 1, b: 2, a: 3}|{(1): 2}|{(1): error(3)}|label $a ! label $b ! 1, break $a, 2|label $a ! (label $a ! 1, break $a, 2), 3|[limit(2; 1, 2, 3)]|def f($x; g): $x + g; f(1, 2; 10, 20)|def f(g): 5 ! g; f(. + 1)|def f($x): def g: $x; g; f(1) + f(2)|3 as $x ! def f(g): 4 as $x ! g; f($x)|def f: if . > 3 then . else . + 1 ! f end; 0 ! f|def f(g): def h: g; h; f(7)|label $l ! def f: break $l; 1, f, 2|def f(x): x; def g(x): f(x); g(.a)|path(.a[0], .b)|path(1)|path(..)|path(.[] ! select(. > 1))|path(.a // .b)|path(.a ! getpath(["b", 0]))|path(.[-1])|path(.[-3])|path(.[-1e300])|path(try .a catch .b)|path(label $l ! .a, break $l)|path(def f: .a; f)|path(first(.[]))|path(foreach 1 as $x (.; .))|[paths]|getpath(["a", 0])|getpath([], ["a"])|setpath(["a"]; 1, 2)|delpaths([[0], [2]])|del(.[0], .[1])|.a = 1|.a = (1, 2)|(.a, .b) = .c|.[] = 1|1 = 2|empty = 1|.a.b = 1|.a !== . + 1|.a !== empty|.[] !== (., 9)|.[] !== select(. > 1)|(.a, .a) !== . + 1|1 !== 2|.a !== error(4)|label $l ! 1, (.a !== break $l), 2|. !== 5|.. !== .|try (.a !== (1 / 0)) catch .|[range(0, 1; 2)]|map(. + 1)|[limit(9; recurse(. + 1))]|first(.[]), last(.[])|with_entries(.)|group_by(.)|sort_by(.)|unique_by(.)|walk(.)|until(true; .)|[while(false; .)]|def f: f; f|.[0] as $x ! reduce (1, 2) as $y ($x; . + $y)|[.[] ! try (if . == 1 then error("x") else . end) catch .]|def f(g): g, (def g: 8; g), g; f(3)|[(1, 2) as $x ! (3, 4) as $y ! [$x, $y]]|def f($a; $b): [$a, $b]; f(1, 2; 3, 4)|.[] !== (.[]? !== 1)|def r: ., (.[]? ! r); [r]|(label $x ! 1, 2), (label $x ! 3, break $x)|[label $l ! (1, 2, 3) ! if . == 2 then break $l else . end]|try (try error(1) catch error(. + 1)) catch .|{a: 1} ! . as $x ! $x.a, .a|foreach .[] as $x (null; $x; .)|[.[] as $x ! label $l ! $x, break $l]`

func program(t *testing.T, src string) (api.Program, bool) {
	m, _, err := qparse.Module("main", src)
	if err != api.OK {
		t.Fatal(src, err)
	}
	p, err := module.Link(m, nil)
	return p, err == api.OK
}

// same compares the meaning of a program with the execution of its code.
func same(t *testing.T, src string, p api.Program, in api.Value) bool {
	t.Helper()
	c, err := qcode.Compile(p)
	if err != api.OK {
		return false
	}
	if qcode.Check(c) != api.OK {
		t.Fatalf("%s: %v", src, qcode.Check(c))
	}
	want, got := qeval.Eval(p, in, 20000), Run(c, in, 200000)
	if want.Err == api.ErrFuel || got.Err == api.ErrFuel {
		return false
	}
	want.Steps, got.Steps = 0, 0
	if !reflect.DeepEqual(want, got) {
		text, _ := brace.Inline(in)
		t.Fatalf("%s on %s: %s, not %s\n%s", src, text, show(got), show(want), qcode.Text(c))
	}
	return true
}

var inputs = []string{"null", "1", "[1, 2, 3]", "{a: 1, b: [1, null]}", "[[1], {a: [2]}, null]", "{a: {b: [1]}, c: 3}", `"abc"`, "[]", `[{a: 1}, {a: 2}]`}

// P41.2, P41.5, P42.5, W4
func TestCorpus(t *testing.T) {
	for _, src := range strings.Split(corpus, "|") {
		src = strings.ReplaceAll(src, "!==", "|=")
		src = strings.ReplaceAll(src, "! ", "| ")
		p, ok := program(t, src)
		if !ok {
			t.Error(src)
		}
		for _, in := range inputs {
			same(t, src, p, val(t, in))
		}
	}
}

func random(r *rand.Rand, depth int, vars, labels, funcs []string) string {
	sub := func() string { return random(r, depth-1, vars, labels, funcs) }
	if depth == 0 {
		leaves := []string{".", ".a", ".b", ".[0]", ".[]", "..", "1", "2", "null", "false", "\"a\"", "empty", "error(.)", "length", "(1, 2)", "keys", "[]", ".[]?", "error(1)"}
		leaves = append(append(append(leaves, vars...), labels...), funcs...)
		return leaves[r.Intn(len(leaves))]
	}
	switch r.Intn(26) {
	case 0, 1:
		return "(" + sub() + " | " + sub() + ")"
	case 2, 3:
		return "(" + sub() + ", " + sub() + ")"
	case 4:
		return "(" + sub() + " " + []string{"+", "-", "==", "<", "and", "or", "//"}[r.Intn(7)] + " " + sub() + ")"
	case 5:
		return "(try " + "(" + sub() + ") catch (" + sub() + "))"
	case 6:
		return "(" + sub() + ")?"
	case 7:
		return "if " + sub() + " then " + sub() + " else " + sub() + " end"
	case 8:
		inner := append(vars[:len(vars):len(vars)], "$v")
		return "reduce (" + sub() + ") as $v (" + sub() + "; " + random(r, depth-1, inner, labels, funcs) + ")"
	case 9:
		inner := append(vars[:len(vars):len(vars)], "$w")
		return "foreach (" + sub() + ") as $w (" + sub() + "; " + random(r, depth-1, inner, labels, funcs) + "; " + random(r, depth-1, inner, labels, funcs) + ")"
	case 10, 11:
		inner := append(vars[:len(vars):len(vars)], "$x")
		return "((" + sub() + ") as $x | " + random(r, depth-1, inner, labels, funcs) + ")"
	case 12, 13:
		inner := append(labels[:len(labels):len(labels)], "break $l")
		return "(label $l | " + random(r, depth-1, vars, inner, funcs) + ")"
	case 14:
		inner := append(funcs[:len(funcs):len(funcs)], "g")
		return "(def f(g; $p): " + random(r, depth-1, append(vars[:len(vars):len(vars)], "$p"), labels, inner) + "; f(" + sub() + "; " + sub() + "))"
	case 15:
		return "[" + sub() + "]"
	case 16:
		return "{a: " + "(" + sub() + "), (" + sub() + "): 1}"
	case 17:
		return "path(" + sub() + ")"
	case 18:
		return "(" + sub() + " = " + sub() + ")"
	case 19, 20:
		return "(" + sub() + " |= " + sub() + ")"
	case 21:
		return "(" + sub() + ")[" + sub() + "]"
	case 22:
		return "(" + sub() + ")[" + sub() + ":]"
	case 23:
		return "first(" + sub() + ")"
	case 24:
		return "del(" + sub() + ")"
	}
	return "(-" + "(" + sub() + "))"
}

// P42.5, W4: random programs
func TestRandom(t *testing.T) {
	r := rand.New(rand.NewSource(1))
	compared := 0
	for range 4000 {
		src := random(r, 1+r.Intn(4), nil, nil, nil)
		p, ok := program(t, src)
		if !ok {
			t.Fatal(src)
		}
		p, _ = module.Trim(p)
		for range 3 {
			if same(t, src, p, val(t, inputs[r.Intn(len(inputs))])) {
				compared++
			}
		}
	}
	if compared < 5000 {
		t.Error(compared)
	}
}
