// Package exprs copies expressions of the query language.
package exprs

import (
	"slices"

	"datakit/api"
	"datakit/value"
)

// Copy returns an expression that shares no memory with another one.
func Copy(e api.Expr) api.Expr {
	e.Val = value.Copy(e.Val)
	e.Funcs = CopyFuncs(e.Funcs)
	args := make([]api.Expr, len(e.Args))
	for i, arg := range e.Args {
		args[i] = Copy(arg)
	}
	e.Args = args
	if len(args) == 0 {
		e.Args = nil
	}
	return e
}

// CopyFuncs returns functions that share no memory with others.
func CopyFuncs(l []api.Func) []api.Func {
	var funcs []api.Func
	for _, f := range l {
		funcs = append(funcs, api.Func{Name: f.Name, Params: slices.Clone(f.Params), Body: Copy(f.Body)})
	}
	return funcs
}

// Zero reports whether all fields of an expression are zero.
func Zero(e api.Expr) bool {
	v := e.Val
	return e.Op == 0 && e.Name == "" && len(e.Args)+len(e.Funcs) == 0 &&
		v.Kind == 0 && !v.Bool && v.Num == api.Decimal{} && v.Time == api.Time{} && v.Text == "" &&
		len(v.Bytes)+len(v.List)+len(v.Fields) == 0
}
