package qcode

import (
	"reflect"
	"slices"
	"strings"
	"testing"

	"datakit/api"
	"datakit/module"
	"datakit/qparse"
	"datakit/value"
)

func code(ops ...api.Instr) api.Code { return api.Code{Ops: ops} }

// P41.1
func TestCheck(t *testing.T) {
	push := api.Instr{Op: api.IPush}
	for i, test := range []struct {
		c   api.Code
		err api.Errno
	}{
		{code(), api.ErrRange}, {code(push), 0}, {api.Code{Start: 1, Ops: []api.Instr{push}}, api.ErrRange}, {api.Code{Start: -1, Ops: []api.Instr{push}}, api.ErrRange}, {api.Code{Start: -1, Ops: make([]api.Instr, api.MaxInstrs+1)}, api.ErrSize}, {code(api.Instr{}), api.ErrArg}, {code(api.Instr{Op: 31}), api.ErrArg}, {code(push, api.Instr{Op: 99}), api.ErrArg},
		{code(api.Instr{Op: api.IPush, A: 1}), api.ErrArg}, {code(api.Instr{Op: api.IPush, Name: "a"}), api.ErrArg}, {code(api.Instr{Op: api.IPush, Val: api.Value{Kind: 9}}), api.ErrKind}, {code(api.Instr{Op: api.IPush, Val: value.Text("\xff")}), api.ErrText}, {code(api.Instr{Op: api.IDup, Val: value.Int(0)}), api.ErrArg}, {code(api.Instr{Op: api.IDup, B: -1}), api.ErrArg}, {code(api.Instr{Op: api.IFork, B: 1}), api.ErrArg}, {code(api.Instr{Op: api.IFork, Name: "x"}), api.ErrArg},
		{code(api.Instr{Op: api.ILoad, A: api.MaxInstrs, B: api.MaxInstrs}), 0}, {code(api.Instr{Op: api.ILoad, A: api.MaxInstrs + 1}), api.ErrRange}, {code(api.Instr{Op: api.IStore, A: -1}), api.ErrRange}, {code(api.Instr{Op: api.IStore, B: -1}), api.ErrRange}, {code(api.Instr{Op: api.IBreak, B: api.MaxInstrs + 1}), api.ErrRange}, {code(api.Instr{Op: api.IFork}), 0}, {code(api.Instr{Op: api.IFork, A: 1}), api.ErrRange}, {code(api.Instr{Op: api.IJump, A: -1}), api.ErrRange}, {code(api.Instr{Op: api.ICall, A: -1, B: 3}), 0}, {code(api.Instr{Op: api.ICall, A: -2}), api.ErrRange}, {code(api.Instr{Op: api.ICall, A: 1}), api.ErrRange}, {code(api.Instr{Op: api.IClosure, A: -1}), api.ErrRange}, {code(api.Instr{Op: api.IMap, A: 3}), 0}, {code(api.Instr{Op: api.IMap, A: -1}), api.ErrRange}, {code(api.Instr{Op: api.IMark, A: 3, B: 1}), api.ErrArg},
		{code(api.Instr{Op: api.IRaise, A: 1}), 0}, {code(api.Instr{Op: api.IRaise, A: 32}), 0}, {code(api.Instr{Op: api.IRaise, A: 0}), api.ErrRange}, {code(api.Instr{Op: api.IRaise, A: 33}), api.ErrRange}, {code(api.Instr{Op: api.IRaise, A: int(api.ErrFuel)}), api.ErrRange}, {code(api.Instr{Op: api.IRaise, A: int(api.ErrState)}), api.ErrRange}, {code(api.Instr{Op: api.IRaise, A: int(api.ErrUser)}), 0},
		{code(api.Instr{Op: api.IField}), 0}, {code(api.Instr{Op: api.IField, Name: "\xff"}), api.ErrName}, {code(api.Instr{Op: api.IField, Name: strings.Repeat("k", 1025)}), api.ErrName}, {code(api.Instr{Op: api.IArith, Name: "+"}), 0}, {code(api.Instr{Op: api.IArith, Name: "=="}), api.ErrName}, {code(api.Instr{Op: api.IArith}), api.ErrName}, {code(api.Instr{Op: api.ICompare, Name: "<="}), 0}, {code(api.Instr{Op: api.ICompare, Name: "+"}), api.ErrName}, {code(api.Instr{Op: api.IBuiltin, Name: "length"}), 0}, {code(api.Instr{Op: api.IBuiltin, Name: "length", A: 1}), api.ErrArity}, {code(api.Instr{Op: api.IBuiltin, Name: "nope"}), api.ErrName}, {code(api.Instr{Op: api.IBuiltin, Name: "track"}), 0}, {code(api.Instr{Op: api.IBuiltin, Name: "path"}), 0}, {code(api.Instr{Op: api.IBuiltin, Name: "path", A: 1}), api.ErrArity}, {code(api.Instr{Op: api.IBuiltin, Name: "setpath", A: 2}), 0}, {code(api.Instr{Op: api.IBuiltin, Name: "getpath", A: 2}), api.ErrArity}, {code(api.Instr{Op: api.IBuiltin, Name: "delpaths", A: 1}), 0}, {code(api.Instr{Op: api.IBuiltin, Name: "nope", A: -1}), api.ErrRange}, {code(api.Instr{Op: api.IBuiltin, Name: "map", A: 1}), api.ErrName},
	} {
		if err := Check(test.c); err != test.err {
			t.Error(i, err)
		}
	}
}

// P41.3, P41.4
func TestText(t *testing.T) {
	c := code(api.Instr{Op: api.IPush, Val: value.Int(1)}, api.Instr{Op: api.IOutput})
	if got := Text(c); got != "start 0\n0: push 1\n1: output\n" {
		t.Errorf("%q", got)
	}
	c = code(api.Instr{Op: api.ICall, A: -1, B: 2}, api.Instr{Op: api.IFork, A: 2}, api.Instr{Op: api.IBuiltin, Name: "has", A: 1}, api.Instr{Op: api.IField, Name: "a\"b"}, api.Instr{Op: api.ILoad, A: 3, B: 1}, api.Instr{Op: api.IPush, Val: value.Text("x")}, api.Instr{Op: api.IClosure, A: 1}, api.Instr{Op: api.ICall, A: 2}, api.Instr{Op: api.IRaise, A: 14}, api.Instr{Op: api.IInvoke, A: 1, B: 2}, api.Instr{Op: api.IMap}, api.Instr{Op: api.ICompare, Name: "=="})
	c.Start = 1
	want := "start 1\n0: call -1 2\n1: fork 2\n2: builtin 1 \"has\"\n3: field \"a\\\"b\"\n4: load 3 1\n5: push \"x\"\n6: closure 1 0\n7: call 2 0\n8: raise 14\n9: invoke 1 2\n10: map 0\n11: compare \"==\"\n"
	if got := Text(c); got != want {
		t.Errorf("%q", got)
	}
	if got := Targets(c); !slices.Equal(got, []int{1, 2}) {
		t.Error(got)
	}
	if Targets(code(api.Instr{Op: api.IDup})) != nil {
		t.Error("Targets")
	}
}

func link(t *testing.T, src string) api.Program {
	t.Helper()
	m, _, err := qparse.Module("main", src)
	if err != api.OK {
		t.Fatal(src, err)
	}
	p, err := module.Link(m, nil)
	if err != api.OK {
		t.Fatal(src, err)
	}
	return p
}

// P41.2
func TestCompile(t *testing.T) {
	if c, err := Compile(api.Program{Main: api.Expr{Op: api.QVar, Name: "x"}}); err != api.ErrName || !reflect.DeepEqual(c, api.Code{}) {
		t.Error(err)
	}
	for _, src := range []string{".", "walk(.)", "def f($x; g): def h(y): g | y; h($x); f(.; .)", "label $l | .. |= break $l"} {
		p := link(t, src)
		c, err := Compile(p)
		again, _ := Compile(p)
		if err != api.OK || Check(c) != api.OK || !reflect.DeepEqual(c, again) {
			t.Error(src, err, Check(c))
		}
	}
	wide := api.Expr{Op: api.QMap}
	for range 699 / 2 {
		wide.Args = append(wide.Args, api.Expr{Op: api.QLit, Val: value.Text("a")}, api.Expr{Op: api.QIdentity})
	}
	p := api.Program{Main: wide}
	if _, err := Compile(p); err != api.OK {
		t.Error(err)
	}
	p.Funcs = []api.Func{{Name: "f", Body: api.Expr{Op: api.QIdentity}}}
	if _, err := Compile(p); err != api.OK {
		t.Error(err)
	}
	p.Funcs[0].Params = []api.Param{{Name: "a"}}
	if _, err := Compile(p); err != api.ErrSize {
		t.Error(err)
	}
	inner := api.Expr{Op: api.QDef, Funcs: []api.Func{{Name: "g", Params: []api.Param{{Name: "a"}}, Body: api.Expr{Op: api.QIdentity}}}, Args: []api.Expr{{Op: api.QIdentity}}}
	p = api.Program{Main: wide}
	p.Main.Args = append(slices.Clone(wide.Args[:694]), api.Expr{Op: api.QLit, Val: value.Text("a")}, inner)
	if _, err := Compile(p); err != api.OK || qparse.Size(p.Main) != 699 {
		t.Error(err, qparse.Size(p.Main))
	}
	p.Main.Args = append(p.Main.Args, api.Expr{Op: api.QLit, Val: value.Text("a")}, api.Expr{Op: api.QIdentity})
	if _, err := Compile(p); err != api.ErrSize {
		t.Error(err)
	}
}
