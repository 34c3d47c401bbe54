package qparse

import (
	"datakit/api"
	"datakit/qlex"
	"datakit/source"
)

func node(op int, args ...api.Expr) api.Expr { return api.Expr{Op: op, Args: args} }

func withName(op int, name string, args ...api.Expr) api.Expr {
	return api.Expr{Op: op, Name: name, Args: args}
}

// expr reads an expression.
func (p *parser) expr() api.Expr {
	p.enter()
	defer p.leave()
	switch {
	case p.is("def"):
		var funcs []api.Func
		for p.is("def") {
			funcs = append(funcs, p.def())
		}
		return api.Expr{Op: api.QDef, Funcs: funcs, Args: []api.Expr{p.expr()}}
	case p.take("label"):
		name := p.variable()
		p.expect("|")
		return withName(api.QLabel, name, p.expr())
	}
	var first *api.Expr
	if !p.is("-") && !p.is("try") {
		e := p.postfix()
		if p.take("as") {
			name := p.variable()
			p.expect("|")
			return withName(api.QBind, name, e, p.expr())
		}
		first = &e
	}
	left := p.comma(first)
	if p.take("|") {
		return node(api.QPipe, left, p.expr())
	}
	return left
}

// The following rules are given the postfix expression with which they begin, if
// it has been read already.

func (p *parser) comma(first *api.Expr) api.Expr {
	left := p.alt(first)
	for p.take(",") {
		left = node(api.QComma, left, p.alt(nil))
	}
	return left
}

// alt is grouped from the right. The operands are collected first, since there
// may be very many.
func (p *parser) alt(first *api.Expr) api.Expr {
	list := []api.Expr{p.assign(first)}
	for p.take("//") {
		list = append(list, p.assign(nil))
	}
	last := len(list) - 1
	right := list[last]
	for i := last - 1; i >= 0; i-- {
		right = node(api.QAlt, list[i], right)
	}
	return right
}

func (p *parser) assign(first *api.Expr) api.Expr {
	left := p.or(first)
	switch {
	case p.take("="):
		return node(api.QAssign, left, p.or(nil))
	case p.take("|="):
		return node(api.QUpdate, left, p.or(nil))
	}
	return left
}

func (p *parser) or(first *api.Expr) api.Expr {
	left := p.and(first)
	for p.take("or") {
		left = node(api.QOr, left, p.and(nil))
	}
	return left
}

func (p *parser) and(first *api.Expr) api.Expr {
	left := p.compare(first)
	for p.take("and") {
		left = node(api.QAnd, left, p.compare(nil))
	}
	return left
}

func (p *parser) compare(first *api.Expr) api.Expr {
	left := p.sum(first)
	if p.is("==") || p.is("!=") || p.is("<") || p.is("<=") || p.is(">") || p.is(">=") {
		operator := p.word()
		return withName(api.QCompare, operator, left, p.sum(nil))
	}
	return left
}

func (p *parser) sum(first *api.Expr) api.Expr {
	left := p.product(first)
	for p.is("+") || p.is("-") {
		operator := p.word()
		left = withName(api.QArith, operator, left, p.product(nil))
	}
	return left
}

func (p *parser) product(first *api.Expr) api.Expr {
	left := p.unary(first)
	for p.is("*") || p.is("/") || p.is("%") {
		operator := p.word()
		left = withName(api.QArith, operator, left, p.unary(nil))
	}
	return left
}

func (p *parser) unary(first *api.Expr) api.Expr {
	switch {
	case first != nil:
		return *first
	case p.take("-"):
		p.enter()
		defer p.leave()
		return node(api.QNeg, p.unary(nil))
	case p.take("try"):
		body := p.postfix()
		if p.take("catch") {
			return node(api.QTry, body, p.postfix())
		}
		return node(api.QTry, body, absent())
	}
	return p.postfix()
}

func (p *parser) postfix() api.Expr {
	e := p.term()
	for {
		switch {
		case p.is(".") && p.keyFollows():
			p.next++
			e = withName(api.QField, p.key(), e)
		case p.take("["):
			e = p.brackets(e)
		case p.take("?"):
			e = node(api.QTry, e, absent())
		default:
			return e
		}
	}
}

// keyFollows reports whether the point that is the next token is followed
// immediately by a key.
func (p *parser) keyFollows() bool {
	if p.next+1 >= len(p.tokens) {
		return false
	}
	t := p.tokens[p.next+1]
	return t.At == p.peek().At+1 && isKey(t)
}

func isKey(t api.Token) bool {
	return t.Kind == api.TokText || t.Kind == api.TokWord && isName(t.Text)
}

func (p *parser) key() string {
	if p.peek().Kind == api.TokText {
		return p.text()
	}
	return p.word()
}

// brackets reads what follows an opening bracket behind a target.
func (p *parser) brackets(target api.Expr) api.Expr {
	if p.take("]") {
		return node(api.QEach, target)
	}
	from, to := absent(), absent()
	if p.take(":") {
		to = p.expr()
		p.expect("]")
		return node(api.QSlice, target, from, to)
	}
	from = p.expr()
	if p.take("]") {
		return node(api.QIndex, target, from)
	}
	p.expect(":")
	if !p.is("]") {
		to = p.expr()
	}
	p.expect("]")
	return node(api.QSlice, target, from, to)
}

func (p *parser) term() api.Expr {
	t := p.peek()
	switch t.Kind {
	case api.TokText:
		return api.Expr{Op: api.QLit, Val: api.Value{Kind: api.VText, Text: p.text()}}
	case api.TokPunct:
		return p.punctuated()
	case api.TokWord:
		switch c := t.Text[0]; {
		case c == '$':
			return withName(api.QVar, p.variable())
		case '0' <= c && c <= '9':
			return p.number()
		case qlex.Keyword(t.Text):
			return p.keyword()
		}
		return p.call()
	}
	p.wrong()
	return absent()
}

func (p *parser) number() api.Expr {
	d, err := source.ReadNumber(p.peek().Text)
	if err != api.OK {
		p.fail(err)
	}
	p.next++
	return api.Expr{Op: api.QLit, Val: api.Value{Kind: api.VNum, Num: d}}
}

func (p *parser) call() api.Expr {
	e := withName(api.QCall, p.word())
	if p.take("(") {
		e.Args = p.args(1)
	}
	return e
}

// args reads at least so many arguments, and the closing parenthesis.
func (p *parser) args(least int) []api.Expr {
	var args []api.Expr
	for len(args) < least || p.is(";") {
		if len(args) > 0 {
			p.expect(";")
		}
		args = append(args, p.expr())
	}
	p.expect(")")
	return args
}

// punctuated reads a term that begins with a punctuation mark.
func (p *parser) punctuated() api.Expr {
	switch {
	case p.is(".") && p.keyFollows():
		p.next++
		return withName(api.QField, p.key(), node(api.QIdentity))
	case p.take("."):
		return node(api.QIdentity)
	case p.take(".."):
		return node(api.QRecurse)
	case p.take("("):
		e := p.expr()
		p.expect(")")
		return e
	case p.take("["):
		if p.take("]") {
			return node(api.QList, absent())
		}
		e := p.expr()
		p.expect("]")
		return node(api.QList, e)
	case p.take("{"):
		return p.fields()
	}
	p.wrong()
	return absent()
}

func (p *parser) fields() api.Expr {
	e := node(api.QMap)
	if p.take("}") {
		return e
	}
	for more := true; more; more = p.take(",") {
		e.Args = append(e.Args, p.fieldKey())
		p.expect(":")
		e.Args = append(e.Args, p.alt(nil))
	}
	p.expect("}")
	return e
}

func (p *parser) fieldKey() api.Expr {
	if p.take("(") {
		key := p.expr()
		p.expect(")")
		return key
	}
	if !isKey(p.peek()) {
		p.wrong()
	}
	return api.Expr{Op: api.QLit, Val: api.Value{Kind: api.VText, Text: p.key()}}
}

// keyword reads a term that begins with a keyword.
func (p *parser) keyword() api.Expr {
	switch {
	case p.take("null"):
		return node(api.QLit)
	case p.is("true"), p.is("false"):
		return api.Expr{Op: api.QLit, Val: api.Value{Kind: api.VBool, Bool: p.word() == "true"}}
	case p.take("break"):
		return withName(api.QBreak, p.variable())
	case p.take("if"):
		return p.condition()
	case p.take("reduce"):
		return p.fold(api.QReduce)
	case p.take("foreach"):
		return p.fold(api.QForeach)
	}
	p.wrong()
	return absent()
}

func (p *parser) condition() api.Expr {
	condition := p.expr()
	p.expect("then")
	then := p.expr()
	otherwise := absent()
	if p.take("else") {
		otherwise = p.expr()
	}
	p.expect("end")
	return node(api.QIf, condition, then, otherwise)
}

func (p *parser) fold(op int) api.Expr {
	e := node(op, p.postfix())
	p.expect("as")
	e.Name = p.variable()
	p.expect("(")
	for i := range 2 {
		if i > 0 {
			p.expect(";")
		}
		e.Args = append(e.Args, p.expr())
	}
	if op == api.QForeach {
		extract := absent()
		if p.take(";") {
			extract = p.expr()
		}
		e.Args = append(e.Args, extract)
	}
	p.expect(")")
	return e
}
