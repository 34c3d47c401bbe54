package meaning

import (
	"strings"

	"datakit/api"
)

// What an env adds to the one around it.
const (
	isVariable = iota
	isLabel
	isFuncs  // the functions of a QDef, which are evaluated in this env
	isFilter // a parameter, which stands for an argument in another env
)

// env is what surrounds an expression. A label is known by its env.
type env struct {
	outer *env
	kind  int
	name  string
	val   api.Value
	funcs []api.Func
	arg   task
}

// task is an expression that is to be evaluated in an env, at a call depth.
type task struct {
	e     *api.Expr
	env   *env
	depth int
}

// part returns the task of a part of the expression in the same env.
func (t *task) part(i int) *task { return &task{&t.e.Args[i], t.env, t.depth} }

// with returns the task of a part of the expression with a variable.
func (t *task) with(i int, v api.Value) *task {
	return &task{&t.e.Args[i], &env{outer: t.env, kind: isVariable, name: t.e.Name, val: v}, t.depth}
}

func (t *task) absent(i int) bool { return t.e.Args[i].Op == api.QNone }

// find returns the env that has a variable or a label.
func (s *env) find(kind int, name string) *env {
	for s.kind != kind || s.name != name {
		s = s.outer
	}
	return s
}

// callee returns the local function or the filter that a call names: the env
// that has it, and the function if it is one.
func (s *env) callee(name string) (*env, *api.Func) {
	if strings.Contains(name, "::") {
		return nil, nil
	}
	for ; s != nil; s = s.outer {
		if s.kind == isFilter && s.name == name {
			return s, nil
		}
		for i := range s.funcs {
			if s.funcs[i].Name == name {
				return s, &s.funcs[i]
			}
		}
	}
	return nil, nil
}
