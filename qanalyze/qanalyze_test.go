package qanalyze

import (
	"reflect"
	"testing"

	"datakit/api"
	"datakit/brace"
	"datakit/limit"
	"datakit/module"
	"datakit/path"
	"datakit/qeval"
	"datakit/qparse"
	"datakit/value"
)

func expr(t *testing.T, src string) api.Expr {
	t.Helper()
	e, _, err := qparse.Parse(src)
	if err != api.OK {
		t.Fatal(src, err)
	}
	return e
}

func linked(t *testing.T, src string) api.Program {
	t.Helper()
	m, _, err := qparse.Module("main", src)
	if err != api.OK {
		t.Fatal(src, err)
	}
	p, err := module.Link(m, nil)
	if err != api.OK {
		t.Fatal(src, err)
	}
	return p
}

var each = api.Select{Each: true}

func at(s api.Step) api.Select { return api.Select{At: s} }

// P43.1
func TestPlan(t *testing.T) {
	id := api.Expr{Op: api.QIdentity}
	for src, want := range map[string]api.Plan{
		".a[] | . + 1": {Mode: api.PlanEach, Steps: []api.Select{at(path.Key("a")), each}, Body: expr(t, ". + 1")}, ".[2].b": {Mode: api.PlanEach, Steps: []api.Select{at(path.At(2)), at(path.Key("b"))}, Body: id}, ".[65536] | .": {Mode: api.PlanEach, Steps: []api.Select{at(path.At(65536))}, Body: id}, ".a | .b | .c": {Mode: api.PlanEach, Steps: []api.Select{at(path.Key("a"))}, Body: expr(t, ".b | .c")},
		"reduce .[] as $x (0; . + $x)": {Mode: api.PlanReduce, Steps: []api.Select{each}, Name: "x", Init: expr(t, "0"), Update: expr(t, ". + $x"), Body: id}, "foreach .a[] as $x ([]; $x) | length": {Mode: api.PlanForeach, Steps: []api.Select{at(path.Key("a")), each}, Name: "x", Init: expr(t, "[]"), Update: expr(t, "$x"), Body: expr(t, "length")}, "reduce .[] as $x ({a: -1, (\"b\"): [[]], c: null}; .)": {Mode: api.PlanReduce, Steps: []api.Select{each}, Name: "x", Init: expr(t, "{a: -1, (\"b\"): [[]], c: null}"), Update: id, Body: id},
	} {
		p := linked(t, src)
		got, err := Plan(p)
		want.Funcs = p.Funcs
		if err != api.OK || !reflect.DeepEqual(got, want) || !Streamable(p) || Check(got) != api.OK {
			t.Errorf("%s: %v, %v", src, got, err)
		}
		q, err := Program(got)
		back, err2 := Plan(q)
		if err != api.OK || err2 != api.OK || !reflect.DeepEqual(back, got) {
			t.Error(src, err, err2)
		}
		for _, in := range []string{"null", "[1, 2, {b: 3}]", "{a: [1, 2]}", "{a: 1}"} {
			v, _, _ := brace.Read(in, limit.Usual())
			x, y := qeval.Eval(p, v, api.MaxFuel), qeval.Eval(q, v, api.MaxFuel)
			if x.Err != y.Err || !value.Equal(value.List(x.Out...), value.List(y.Out...)) {
				t.Error(src, in)
			}
		}
	}
	for _, src := range []string{".", ". | .a", "..", "reduce .[] as $x (.; . + $x)", "foreach .[] as $x (0; .; .)", "reduce . as $x (0; .)", ".[-1]", ".[0.5]", ".[65537]", ".[\"a\"]", ".[.a]", ".[0:]", "(.a | .b) | .c", "length", ".a, .b", "reduce .[] as $x ((1, 2); .)", "reduce .[] as $x (1 + 1; .)", "reduce .[] as $x ([1, 2]; .)", "def f: .a; f", "1", ".a?", "reduce .[] as $x ({a: .}; .)", "foreach (1, 2) as $x (0; .)"} {
		p := linked(t, src)
		if x, err := Plan(p); err != api.ErrStream || !reflect.DeepEqual(x, api.Plan{}) || Streamable(p) {
			t.Error(src, err)
		}
	}
	bad := api.Program{Main: api.Expr{Op: api.QVar, Name: "x"}}
	if _, err := Plan(bad); err != api.ErrName || Streamable(bad) {
		t.Error(err)
	}
}

// P43.2
func TestCheck(t *testing.T) {
	id := api.Expr{Op: api.QIdentity}
	one := expr(t, "1")
	good := api.Plan{Mode: api.PlanEach, Steps: []api.Select{each}, Body: id}
	fold := api.Plan{Mode: api.PlanReduce, Steps: []api.Select{each}, Name: "x", Init: one, Update: expr(t, "$x"), Body: id}
	for i, test := range []struct {
		base   api.Plan
		change func(x *api.Plan)
		err    api.Errno
	}{
		{good, func(x *api.Plan) {}, 0}, {fold, func(x *api.Plan) {}, 0}, {good, func(x *api.Plan) { x.Mode = 0 }, api.ErrArg}, {good, func(x *api.Plan) { x.Mode = 4 }, api.ErrArg}, {good, func(x *api.Plan) { x.Steps = nil }, api.ErrArg}, {good, func(x *api.Plan) { x.Steps = make([]api.Select, 49) }, api.ErrSize}, {good, func(x *api.Plan) { x.Steps = []api.Select{{Each: true, At: path.At(1)}} }, api.ErrArg}, {good, func(x *api.Plan) { x.Steps = []api.Select{at(path.At(-1))} }, api.ErrArg}, {good, func(x *api.Plan) { x.Steps = []api.Select{at(api.Step{Key: "a", Index: 1})} }, api.ErrArg}, {good, func(x *api.Plan) { x.Steps = []api.Select{at(path.Key("\xff"))} }, api.ErrArg}, {good, func(x *api.Plan) { x.Steps = []api.Select{at(path.At(65537))} }, api.ErrArg}, {good, func(x *api.Plan) { x.Name = "x" }, api.ErrArg}, {good, func(x *api.Plan) { x.Init = one }, api.ErrArg}, {good, func(x *api.Plan) { x.Update = one }, api.ErrArg}, {good, func(x *api.Plan) { x.Body = api.Expr{} }, api.ErrArg}, {good, func(x *api.Plan) { x.Body = expr(t, "$y") }, api.ErrName}, {good, func(x *api.Plan) { x.Body = api.Expr{Op: api.QIdentity, Name: "a"} }, api.ErrArg},
		{fold, func(x *api.Plan) { x.Init = id }, api.ErrStream}, {fold, func(x *api.Plan) { x.Init = api.Expr{} }, api.ErrStream}, {fold, func(x *api.Plan) { x.Name = "" }, api.ErrName}, {fold, func(x *api.Plan) { x.Body = expr(t, "$x") }, api.ErrName}, {fold, func(x *api.Plan) { x.Mode = api.PlanForeach }, 0}, {fold, func(x *api.Plan) { x.Funcs = []api.Func{{}} }, api.ErrName},
	} {
		x := test.base
		test.change(&x)
		if err := Check(x); err != test.err {
			t.Error(i, err)
		}
		if p, err := Program(x); err != test.err || err != api.OK && !reflect.DeepEqual(p, api.Program{}) {
			t.Error(i, err)
		}
	}
}

// P43.3
func TestNeeds(t *testing.T) {
	l := []api.Select{at(path.Key("a")), each}
	for text, want := range map[string]bool{".": true, ".a": true, ".a[3]": true, ".a[3].b": true, ".b": false, ".a.x": true, ".[0]": false, ".b.c": false} {
		p, _ := path.Parse(text)
		if Needs(l, p) != want {
			t.Error(text)
		}
	}
	if !Needs(nil, []api.Step{path.At(1)}) {
		t.Error("no steps")
	}
}

// P43.4, P43.5
func TestSingle(t *testing.T) {
	for src, want := range map[string]bool{".": true, "1": true, "[]": true, "[1, 2]": true, ".a": true, ".[0]": true, ".[1:]": true, ".[1:2]": true, "-.": true, ". + 1": true, ". == 1": true, ". and 1": true, ". or 1": true, ". | 1": true, ". // 1": true, "{a: 1}": true, "{}": true, "if . then 1 end": true, "if . then 1 else 2 end": true, "try . catch 1": true, "reduce .[] as $x (0; empty)": true, ". as $x | $x": true, ".[] = 1": true, ".[] |= (1, 2)": true, "(def f: 1, 2; .)": true, "..": false, ".[]": false, "1, 2": false, ".?": false, "length": false, "empty": false, ".[] | 1": false, "1 + .[]": false, "if .[] then 1 end": false, "if . then 1 else .[] end": false, "try .[] catch 1": false, "try . catch .[]": false, "reduce 1 as $x (.[]; 1)": false, "foreach . as $x (1; 1)": false, ".[] as $x | 1": false, ". as $x | .[]": false, ". = .[]": false, "label $l | 1": false, "(def f: 1; f)": false, "{a: .[]}": false, ".[.[]:]": false, "break $x": false} {
		if got := Single(expr(t, src)); got != want {
			t.Error(src, got)
		}
	}
}
