package qparse

import (
	"strings"

	"datakit/api"
	"datakit/qlex"
	"datakit/source"
)

// Text returns the canonical source of an expression.
func Text(e api.Expr) (string, api.Errno) {
	if err := Check(e); err != api.OK {
		return "", err
	}
	var w writer
	w.expr(&e, 0)
	return w.out.String(), api.OK
}

// ModuleText returns the canonical source of a module.
func ModuleText(m api.Module) (string, api.Errno) {
	if err := checkModule(&m); err != api.OK {
		return "", err
	}
	var w writer
	for _, x := range m.Imports {
		w.add("import " + x.Module)
		if x.As != "" {
			w.add(" as " + x.As)
		}
		w.add(";\n")
	}
	for i := range m.Funcs {
		w.function(&m.Funcs[i])
		w.add("\n")
	}
	if m.Main.Op != api.QNone {
		w.body(&m.Main)
		w.add("\n")
	}
	return w.out.String(), api.OK
}

func checkModule(m *api.Module) api.Errno {
	if !qlex.Ident(m.Name) {
		return api.ErrName
	}
	if len(m.Imports) > api.MaxModules {
		return api.ErrSize
	}
	for _, x := range m.Imports {
		if !qlex.Ident(x.Module) || x.As != "" && !qlex.Ident(x.As) {
			return api.ErrName
		}
	}
	c := &checker{}
	if err := c.funcs(m.Funcs, func(body *api.Expr) api.Errno { return Check(*body) }); err != api.OK {
		return err
	}
	if isAbsent(&m.Main) {
		return api.OK
	}
	return Check(m.Main)
}

// The levels of expressions: the higher, the more tightly they bind.
const (
	levelPipe    = 0
	levelComma   = 1
	levelAlt     = 2
	levelAssign  = 3
	levelOr      = 4
	levelAnd     = 5
	levelCompare = 6
	levelSum     = 7
	levelProduct = 8
	levelUnary   = 9
	levelPostfix = 10
)

func levelOf(e *api.Expr) int {
	switch e.Op {
	case api.QDef, api.QBind, api.QLabel, api.QPipe:
		return levelPipe
	case api.QComma:
		return levelComma
	case api.QAlt:
		return levelAlt
	case api.QAssign, api.QUpdate:
		return levelAssign
	case api.QOr:
		return levelOr
	case api.QAnd:
		return levelAnd
	case api.QCompare:
		return levelCompare
	case api.QArith:
		if e.Name == "+" || e.Name == "-" {
			return levelSum
		}
		return levelProduct
	case api.QNeg:
		return levelUnary
	case api.QTry:
		if e.Args[1].Op != api.QNone {
			return levelUnary
		}
	}
	return levelPostfix
}

// writer writes canonical sources of valid expressions.
type writer struct{ out strings.Builder }

func (w *writer) add(s string) { w.out.WriteString(s) }

// expr writes an expression, in parentheses if its level is below one.
func (w *writer) expr(e *api.Expr, level int) {
	if levelOf(e) >= level {
		w.plain(e)
		return
	}
	w.add("(")
	w.plain(e)
	w.add(")")
}

// body writes what follows definitions.
func (w *writer) body(e *api.Expr) {
	if e.Op == api.QDef {
		w.expr(e, levelPostfix)
		return
	}
	w.expr(e, 0)
}

func (w *writer) plain(e *api.Expr) {
	level := levelOf(e)
	switch e.Op {
	case api.QComma:
		w.binary(e, level, ", ", level+1)
	case api.QPipe:
		w.binary(e, level+1, " | ", level)
	case api.QAlt:
		w.binary(e, level+1, " // ", level)
	case api.QAssign:
		w.binary(e, level+1, " = ", level+1)
	case api.QUpdate:
		w.binary(e, level+1, " |= ", level+1)
	case api.QOr:
		w.binary(e, level, " or ", level+1)
	case api.QAnd:
		w.binary(e, level, " and ", level+1)
	case api.QCompare:
		w.binary(e, level+1, " "+e.Name+" ", level+1)
	case api.QArith:
		w.binary(e, level, " "+e.Name+" ", level+1)
	case api.QNeg:
		w.add("-")
		w.expr(&e.Args[0], levelUnary)
	case api.QBind:
		w.expr(&e.Args[0], levelPostfix)
		w.add(" as $" + e.Name + " | ")
		w.expr(&e.Args[1], 0)
	case api.QLabel:
		w.add("label $" + e.Name + " | ")
		w.expr(&e.Args[0], 0)
	case api.QDef:
		for i := range e.Funcs {
			w.function(&e.Funcs[i])
			w.add(" ")
		}
		w.body(&e.Args[0])
	case api.QTry:
		w.try(e)
	default:
		w.postfix(e)
	}
}

func (w *writer) binary(e *api.Expr, left int, operator string, right int) {
	w.expr(&e.Args[0], left)
	w.add(operator)
	w.expr(&e.Args[1], right)
}

// function writes a definition up to its semicolon.
func (w *writer) function(f *api.Func) {
	w.add("def " + f.Name)
	for i, p := range f.Params {
		w.add(opening(i))
		if p.Value {
			w.add("$")
		}
		w.add(p.Name)
	}
	if len(f.Params) > 0 {
		w.add(")")
	}
	w.add(": ")
	w.expr(&f.Body, 0)
	w.add(";")
}

// opening returns what stands before an argument.
func opening(i int) string {
	if i == 0 {
		return "("
	}
	return "; "
}

func (w *writer) try(e *api.Expr) {
	if e.Args[1].Op == api.QNone {
		w.expr(&e.Args[0], levelPostfix)
		w.add("?")
		return
	}
	w.add("try ")
	w.expr(&e.Args[0], levelPostfix)
	w.add(" catch ")
	w.expr(&e.Args[1], levelPostfix)
}

// postfix writes expressions of the highest level.
func (w *writer) postfix(e *api.Expr) {
	switch e.Op {
	case api.QIdentity:
		w.add(".")
	case api.QRecurse:
		w.add("..")
	case api.QLit:
		w.add(literal(&e.Val))
	case api.QVar:
		w.add("$" + e.Name)
	case api.QBreak:
		w.add("break $" + e.Name)
	case api.QField:
		w.field(e)
	case api.QIndex, api.QSlice, api.QEach:
		w.brackets(e)
	case api.QIf:
		w.condition(e)
	case api.QReduce, api.QForeach:
		w.fold(e)
	case api.QCall:
		w.add(e.Name)
		w.args(e.Args)
	case api.QList:
		w.add("[")
		if e.Args[0].Op != api.QNone {
			w.expr(&e.Args[0], 0)
		}
		w.add("]")
	case api.QMap:
		w.pairs(e)
	}
}

func literal(v *api.Value) string {
	switch v.Kind {
	case api.VBool:
		if v.Bool {
			return "true"
		}
		return "false"
	case api.VNum:
		return source.Number(v.Num)
	case api.VText:
		text, _ := qlex.Quote(v.Text)
		return text
	}
	return "null"
}

func (w *writer) field(e *api.Expr) {
	if e.Args[0].Op != api.QIdentity {
		w.expr(&e.Args[0], levelPostfix)
	}
	w.add(".")
	if isName(e.Name) {
		w.add(e.Name)
		return
	}
	text, _ := qlex.Quote(e.Name)
	w.add(text)
}

// isName reports whether a string is a name, which may be a keyword.
func isName(s string) bool {
	for i := range len(s) {
		c := s[i]
		if !('a' <= c && c <= 'z' || 'A' <= c && c <= 'Z' || c == '_' || i > 0 && '0' <= c && c <= '9') {
			return false
		}
	}
	return s != ""
}

func (w *writer) brackets(e *api.Expr) {
	w.expr(&e.Args[0], levelPostfix)
	w.add("[")
	for i := range e.Args[1:] {
		if i > 0 {
			w.add(":")
		}
		if arg := &e.Args[1+i]; arg.Op != api.QNone {
			w.expr(arg, 0)
		}
	}
	w.add("]")
}

func (w *writer) condition(e *api.Expr) {
	w.add("if ")
	w.expr(&e.Args[0], 0)
	w.add(" then ")
	w.expr(&e.Args[1], 0)
	if e.Args[2].Op != api.QNone {
		w.add(" else ")
		w.expr(&e.Args[2], 0)
	}
	w.add(" end")
}

func (w *writer) fold(e *api.Expr) {
	word := "reduce "
	args := e.Args[1:]
	if e.Op == api.QForeach {
		word = "foreach "
		if args[2].Op == api.QNone {
			args = args[:2]
		}
	}
	w.add(word)
	w.expr(&e.Args[0], levelPostfix)
	w.add(" as $" + e.Name + " ")
	w.args(args)
}

func (w *writer) args(args []api.Expr) {
	for i := range args {
		w.add(opening(i))
		w.expr(&args[i], 0)
	}
	if len(args) > 0 {
		w.add(")")
	}
}

func (w *writer) pairs(e *api.Expr) {
	w.add("{")
	for i := 0; i < len(e.Args); i += 2 {
		if i > 0 {
			w.add(", ")
		}
		key := &e.Args[i]
		if key.Op == api.QLit && key.Val.Kind == api.VText {
			w.add(literal(&key.Val))
		} else {
			w.add("(")
			w.expr(key, 0)
			w.add(")")
		}
		w.add(": ")
		w.expr(&e.Args[i+1], levelAlt)
	}
	w.add("}")
}
