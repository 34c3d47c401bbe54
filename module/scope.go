package module

import (
	"strings"

	"datakit/api"
)

// What a scope adds to the one around it.
const (
	isVariable = iota
	isLabel
	isFunction
)

// scope is what surrounds an expression: a name, and the scope around it.
type scope struct {
	outer *scope
	kind  int
	name  string
	arity int // of a function
}

func (s *scope) with(kind int, name string, arity int) *scope {
	return &scope{outer: s, kind: kind, name: name, arity: arity}
}

func (s *scope) find(kind int, name string) *scope {
	for s != nil && (s.kind != kind || s.name != name) {
		s = s.outer
	}
	return s
}

// local returns the function or filter in scope that a call names, or nil.
func (s *scope) local(e *api.Expr) *scope {
	if strings.Contains(e.Name, "::") {
		return nil
	}
	return s.find(isFunction, e.Name)
}

// params returns the scope of the body of a function.
func params(s *scope, f *api.Func) *scope {
	for _, p := range f.Params {
		if p.Value {
			s = s.with(isVariable, p.Name, 0)
		} else {
			s = s.with(isFunction, p.Name, 0)
		}
	}
	return s
}

// ofFuncs returns the scope in which the functions of a QDef are.
func ofFuncs(s *scope, e *api.Expr) *scope {
	for i := range e.Funcs {
		s = s.with(isFunction, e.Funcs[i].Name, len(e.Funcs[i].Params))
	}
	return s
}

// ofArg returns the scope of an argument; that of a QDef has the functions.
func ofArg(s *scope, e *api.Expr, i int) *scope {
	switch {
	case e.Op == api.QDef:
		return ofFuncs(s, e)
	case e.Op == api.QLabel:
		return s.with(isLabel, e.Name, 0)
	case e.Op == api.QBind && i == 1, e.Op == api.QReduce && i == 2, e.Op == api.QForeach && i >= 2:
		return s.with(isVariable, e.Name, 0)
	}
	return s
}

// visitor visits expressions: a node before its functions, and these before its
// arguments.
type visitor struct {
	strict   bool                        // variables and labels must be in scope
	variable func(name string)           // for variables that are not in scope
	call     func(e *api.Expr) api.Errno // for calls that are not local
}

func (v *visitor) visit(e *api.Expr, s *scope) api.Errno {
	if err := v.node(e, s); err != api.OK {
		return err
	}
	if len(e.Funcs) > 0 {
		inner := ofFuncs(s, e)
		for i := range e.Funcs {
			if err := v.visit(&e.Funcs[i].Body, params(inner, &e.Funcs[i])); err != api.OK {
				return err
			}
		}
	}
	for i := range e.Args {
		if err := v.visit(&e.Args[i], ofArg(s, e, i)); err != api.OK {
			return err
		}
	}
	return api.OK
}

func (v *visitor) node(e *api.Expr, s *scope) api.Errno {
	switch e.Op {
	case api.QVar:
		if s.find(isVariable, e.Name) == nil {
			if v.strict {
				return api.ErrName
			}
			if v.variable != nil {
				v.variable(e.Name)
			}
		}
	case api.QBreak:
		if v.strict && s.find(isLabel, e.Name) == nil {
			return api.ErrName
		}
	case api.QCall:
		if local := s.local(e); local != nil {
			if v.strict {
				return checkCall(local.arity, true, len(e.Args))
			}
			return api.OK
		}
		if v.call != nil {
			return v.call(e)
		}
	}
	return api.OK
}

// copyExpr copies an expression, with new names for the calls that are not local.
func copyExpr(e *api.Expr, s *scope, rename func(e *api.Expr, s *scope) string) api.Expr {
	out := *e
	if e.Op == api.QCall && s.local(e) == nil {
		out.Name = rename(e, s)
	}
	out.Funcs, out.Args = nil, nil
	inner := s
	if len(e.Funcs) > 0 {
		inner = ofFuncs(s, e)
	}
	for i := range e.Funcs {
		f := &e.Funcs[i]
		body := copyExpr(&f.Body, params(inner, f), rename)
		out.Funcs = append(out.Funcs, api.Func{Name: f.Name, Params: append([]api.Param(nil), f.Params...), Body: body})
	}
	for i := range e.Args {
		out.Args = append(out.Args, copyExpr(&e.Args[i], ofArg(s, e, i), rename))
	}
	return out
}

// copyFunc copies a function of a module or a program.
func copyFunc(f *api.Func, rename func(e *api.Expr, s *scope) string) api.Func {
	body := copyExpr(&f.Body, params(nil, f), rename)
	return api.Func{Name: f.Name, Params: append([]api.Param(nil), f.Params...), Body: body}
}
