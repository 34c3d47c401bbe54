package qparse

import (
	"strings"
	"unicode/utf8"

	"datakit/api"
	"datakit/qlex"
	"datakit/value"
)

// Check checks an expression.
func Check(e api.Expr) api.Errno {
	c := &checker{left: api.MaxExpr}
	return c.visit(&e, 1, false)
}

// Size returns the number of nodes.
func Size(e api.Expr) int { return size(&e, 1) }

func size(e *api.Expr, depth int) int {
	n := 1
	if depth == api.MaxDepth {
		return n
	}
	for i := range e.Funcs {
		n += size(&e.Funcs[i].Body, depth+1)
	}
	for i := range e.Args {
		n += size(&e.Args[i], depth+1)
	}
	return n
}

// checker counts the nodes that are left.
type checker struct{ left int }

// visit checks an expression; its parent has checked whether it may be absent.
func (c *checker) visit(e *api.Expr, depth int, absent bool) api.Errno {
	if depth > api.MaxDepth {
		return api.ErrDepth
	}
	if c.left == 0 {
		return api.ErrSize
	}
	c.left--
	if absent && e.Op == api.QNone {
		return api.OK
	}
	if err := checkNode(e); err != api.OK {
		return err
	}
	if err := c.funcs(e.Funcs, func(body *api.Expr) api.Errno { return c.visit(body, depth+1, false) }); err != api.OK {
		return err
	}
	for i := range e.Args {
		if err := c.visit(&e.Args[i], depth+1, true); err != api.OK {
			return err
		}
	}
	return api.OK
}

// funcs checks functions that are defined together.
func (c *checker) funcs(list []api.Func, body func(*api.Expr) api.Errno) api.Errno {
	if len(list) > api.MaxFuncs {
		return api.ErrSize
	}
	names := map[string]bool{}
	for i := range list {
		f := &list[i]
		if err := checkHead(f); err != api.OK {
			return err
		}
		if names[f.Name] {
			return api.ErrExists
		}
		names[f.Name] = true
		if err := body(&f.Body); err != api.OK {
			return err
		}
	}
	return api.OK
}

func checkHead(f *api.Func) api.Errno {
	if !qlex.Ident(f.Name) {
		return api.ErrName
	}
	if len(f.Params) > api.MaxParams {
		return api.ErrSize
	}
	for i, p := range f.Params {
		if !qlex.Ident(p.Name) {
			return api.ErrName
		}
		for _, earlier := range f.Params[:i] {
			if earlier.Name == p.Name {
				return api.ErrExists
			}
		}
	}
	return api.OK
}

// checkNode checks the fields of a node.
func checkNode(e *api.Expr) api.Errno {
	if !argsPermitted(e) || !fieldsPermitted(e) {
		return api.ErrArg
	}
	if err := value.Check(e.Val); err != api.OK {
		return err
	}
	if !namePermitted(e) {
		return api.ErrName
	}
	return api.OK
}

// isAbsent reports whether an expression is the absent one.
func isAbsent(e *api.Expr) bool {
	return e.Op == api.QNone && e.Name == "" && zero(&e.Val) && len(e.Args)+len(e.Funcs) == 0
}

func zero(v *api.Value) bool {
	return v.Kind == 0 && !v.Bool && v.Num == api.Decimal{} && v.Time == api.Time{} && v.Text == "" &&
		len(v.Bytes)+len(v.List)+len(v.Fields) == 0
}

// arity returns how many arguments an operator has, and from which one on they
// may be absent. It returns -1 if there is no such operator.
func arity(op int) (n, optional int) {
	switch op {
	case api.QIdentity, api.QRecurse, api.QLit, api.QVar, api.QBreak, api.QCall, api.QMap:
		return 0, 0
	case api.QField, api.QEach, api.QNeg, api.QLabel, api.QDef:
		return 1, 1
	case api.QList:
		return 1, 0
	case api.QSlice:
		return 3, 1
	case api.QTry:
		return 2, 1
	case api.QIf:
		return 3, 2
	case api.QReduce:
		return 3, 3
	case api.QForeach:
		return 4, 3
	case api.QIndex, api.QPipe, api.QComma, api.QArith, api.QCompare, api.QAnd, api.QOr, api.QAlt, api.QBind, api.QAssign, api.QUpdate:
		return 2, 2
	}
	return -1, 0
}

// argsPermitted reports whether an operator exists and has the right arguments.
func argsPermitted(e *api.Expr) bool {
	n, optional := arity(e.Op)
	switch e.Op {
	case api.QCall:
		n, optional = min(len(e.Args), api.MaxParams), len(e.Args)
	case api.QMap:
		n, optional = len(e.Args)/2*2, len(e.Args)
	}
	if n != len(e.Args) {
		return false
	}
	for i := range e.Args {
		arg := &e.Args[i]
		if arg.Op == api.QNone && (i < optional || !isAbsent(arg)) {
			return false
		}
	}
	return e.Op != api.QSlice || e.Args[1].Op != api.QNone || e.Args[2].Op != api.QNone
}

// fieldsPermitted reports whether the fields other than the arguments are those
// of the operator.
func fieldsPermitted(e *api.Expr) bool {
	if (e.Op == api.QDef) != (len(e.Funcs) > 0) {
		return false
	}
	switch e.Op {
	case api.QLit:
		v := &e.Val
		permitted := v.Kind == api.VNull || v.Kind == api.VBool || v.Kind == api.VText || v.Kind == api.VNum && !v.Num.Neg
		return permitted && e.Name == ""
	case api.QArith:
		return zero(&e.Val) && len(e.Name) == 1 && strings.Contains("+-*/%", e.Name)
	case api.QCompare:
		switch e.Name {
		case "==", "!=", "<", "<=", ">", ">=":
			return zero(&e.Val)
		}
		return false
	}
	return zero(&e.Val) && (e.Name == "" || named(e.Op))
}

// named reports whether expressions of an operator have a name.
func named(op int) bool {
	switch op {
	case api.QVar, api.QBreak, api.QField, api.QReduce, api.QForeach, api.QCall, api.QBind, api.QLabel:
		return true
	}
	return false
}

func namePermitted(e *api.Expr) bool {
	switch {
	case e.Op == api.QField:
		return utf8.ValidString(e.Name) && len(e.Name) <= api.MaxKey
	case e.Op == api.QCall:
		module, name, ok := strings.Cut(e.Name, "::")
		return qlex.Ident(module) && (!ok || qlex.Ident(name))
	}
	return !named(e.Op) || qlex.Ident(e.Name)
}
