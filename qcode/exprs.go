package qcode

import (
	"datakit/api"
	"datakit/value"
)

// expr emits the code of an expression: it replaces the input on top of the
// stack by each output in turn.
func (c *compiler) expr(e *api.Expr, s *scope) {
	switch e.Op {
	case api.QIdentity:
	case api.QRecurse:
		if c.recurse == nil {
			c.recurse = &block{}
		}
		c.toBlock(api.ICall, c.recurse)
	case api.QLit:
		c.emit(api.IPop)
		c.push(value.Copy(e.Val))
	case api.QVar:
		v := s.find(isVariable, e.Name)
		c.emit(api.IPop)
		x := c.emit(api.ILoad)
		x.A, x.B = v.number, c.b.level-v.level
	case api.QField, api.QEach, api.QPipe, api.QNeg, api.QComma, api.QIndex, api.QArith, api.QCompare, api.QSlice:
		c.simple(e, s)
	case api.QAnd, api.QOr, api.QAlt, api.QTry, api.QIf:
		c.choice(e, s)
	case api.QReduce, api.QForeach:
		c.fold(e, s)
	case api.QCall:
		c.call(e, s)
	case api.QList, api.QMap:
		c.make(e, s)
	case api.QAssign:
		c.assign(e, s)
	case api.QUpdate:
		c.update(e, s)
	default:
		c.binding(e, s)
	}
}

// simple emits expressions whose parts follow one another.
func (c *compiler) simple(e *api.Expr, s *scope) {
	switch e.Op {
	case api.QField:
		c.expr(&e.Args[0], s)
		c.named(api.IField, e.Name)
	case api.QEach:
		c.expr(&e.Args[0], s)
		c.emit(api.IEach)
	case api.QPipe:
		c.expr(&e.Args[0], s)
		c.expr(&e.Args[1], s)
	case api.QNeg:
		c.expr(&e.Args[0], s)
		c.push(value.Int(0))
		c.emit(api.ISwap)
		c.named(api.IArith, "-")
	case api.QComma:
		second := c.jump(api.IFork)
		c.expr(&e.Args[0], s)
		end := c.jump(api.IJump)
		second()
		c.expr(&e.Args[1], s)
		end()
	case api.QSlice:
		c.emit(api.IDup)
		c.expr(&e.Args[0], s)
		c.all(api.ISwap, api.IDup)
		c.bound(&e.Args[1], s)
		c.emit(api.ISwap)
		c.bound(&e.Args[2], s)
		c.emit(api.ISlice)
	default:
		c.two(e, s)
	}
}

func (c *compiler) bound(e *api.Expr, s *scope) {
	if e.Op == api.QNone {
		c.emit(api.IPop)
		c.push(value.Null())
		return
	}
	c.expr(e, s)
}

// two emits an operator of two operands.
func (c *compiler) two(e *api.Expr, s *scope) {
	c.emit(api.IDup)
	c.expr(&e.Args[0], s)
	c.emit(api.ISwap)
	c.expr(&e.Args[1], s)
	switch e.Op {
	case api.QIndex:
		c.emit(api.IIndex)
	case api.QArith:
		c.named(api.IArith, e.Name)
	default:
		c.named(api.ICompare, e.Name)
	}
}

func (c *compiler) choice(e *api.Expr, s *scope) {
	switch e.Op {
	case api.QAlt:
		c.alt(e, s)
	case api.QTry:
		handler := c.jump(api.ITry)
		c.expr(&e.Args[0], s)
		c.emit(api.IDone)
		end := c.jump(api.IJump)
		handler()
		if e.Args[1].Op == api.QNone {
			c.emit(api.IFail)
		} else {
			c.expr(&e.Args[1], s)
		}
		end()
	case api.QIf:
		c.emit(api.IDup)
		c.expr(&e.Args[0], s)
		otherwise := c.jump(api.IBranch)
		c.expr(&e.Args[1], s)
		end := c.jump(api.IJump)
		otherwise()
		if e.Args[2].Op != api.QNone {
			c.expr(&e.Args[2], s)
		}
		end()
	default:
		c.logic(e, s)
	}
}

// logic emits and, and or: the first operand decides if it is false, or true.
func (c *compiler) logic(e *api.Expr, s *scope) {
	c.emit(api.IDup)
	c.expr(&e.Args[0], s)
	isFalse := c.jump(api.IBranch)
	if e.Op == api.QAnd {
		c.expr(&e.Args[1], s)
		isFalseToo := c.jump(api.IBranch)
		c.push(value.Bool(true))
		end := c.jump(api.IJump)
		isFalse()
		c.emit(api.IPop)
		isFalseToo()
		c.push(value.Bool(false))
		end()
		return
	}
	c.emit(api.IPop)
	c.push(value.Bool(true))
	end := c.jump(api.IJump)
	isFalse()
	c.expr(&e.Args[1], s)
	isFalseToo := c.jump(api.IBranch)
	c.push(value.Bool(true))
	endToo := c.jump(api.IJump)
	isFalseToo()
	c.push(value.Bool(false))
	end()
	endToo()
}

func (c *compiler) alt(e *api.Expr, s *scope) {
	found := c.slot()
	c.push(value.Bool(false))
	c.store(found)
	none := c.jump(api.IFork)
	c.expr(&e.Args[0], s)
	c.emit(api.IDup)
	skip := c.jump(api.IBranch)
	c.push(value.Bool(true))
	c.store(found)
	end := c.jump(api.IJump)
	skip()
	c.emit(api.IFail)
	none()
	c.load(found)
	right := c.jump(api.IBranch)
	c.emit(api.IFail)
	right()
	c.expr(&e.Args[1], s)
	end()
}

// variable adds a variable of the block to a scope.
func (c *compiler) variable(s *scope, name string) (*scope, int) {
	slot := c.slot()
	return &scope{outer: s, kind: isVariable, name: name, number: slot, level: c.b.level}, slot
}

func (c *compiler) fold(e *api.Expr, s *scope) {
	state := c.slot()
	inner, x := c.variable(s, e.Name)
	c.emit(api.IDup)
	c.expr(&e.Args[1], s)
	c.store(state)
	if e.Op == api.QForeach {
		c.expr(&e.Args[0], s)
		c.store(x)
		c.load(state)
		c.expr(&e.Args[2], inner)
		c.emit(api.IDup)
		c.store(state)
		if e.Args[3].Op != api.QNone {
			c.expr(&e.Args[3], inner)
		}
		return
	}
	before := c.slot()
	end := c.jump(api.IFork)
	c.expr(&e.Args[0], s)
	c.store(x)
	c.load(state)
	c.store(before)
	c.push(value.Null())
	c.store(state)
	c.load(before)
	c.expr(&e.Args[2], inner)
	c.store(state)
	c.emit(api.IFail)
	end()
	c.emit(api.IPop)
	c.load(state)
}

func (c *compiler) make(e *api.Expr, s *scope) {
	if e.Op == api.QList {
		if e.Args[0].Op == api.QNone {
			c.emit(api.IPop)
			c.push(api.Value{Kind: api.VList})
			return
		}
		end := c.jump(api.IList)
		c.expr(&e.Args[0], s)
		c.emit(api.ICollect)
		end()
		return
	}
	for i := 0; i < len(e.Args); i += 2 {
		c.emit(api.IDup)
		c.expr(&e.Args[i], s)
		// Indexing an empty map by the key fails unless that is a string.
		c.emit(api.IDup)
		c.push(api.Value{Kind: api.VMap})
		c.all(api.ISwap, api.IIndex, api.IPop, api.ISwap, api.IDup)
		c.expr(&e.Args[i+1], s)
		c.emit(api.ISwap)
	}
	c.emit(api.IPop)
	c.emit(api.IMap).A = len(e.Args) / 2
}

// binding emits expressions that bind names, and breaks.
func (c *compiler) binding(e *api.Expr, s *scope) {
	switch e.Op {
	case api.QBind:
		c.emit(api.IDup)
		c.expr(&e.Args[0], s)
		inner, x := c.variable(s, e.Name)
		c.store(x)
		c.expr(&e.Args[1], inner)
	case api.QLabel:
		label := c.b.labels
		c.b.labels++
		c.emit(api.IMark).A = label
		c.expr(&e.Args[0], &scope{outer: s, kind: isLabel, name: e.Name, number: label, level: c.b.level})
	case api.QBreak:
		label := s.find(isLabel, e.Name)
		x := c.emit(api.IBreak)
		x.A, x.B = label.number, c.b.level-label.level
	case api.QDef:
		var blocks []*block
		for i := range e.Funcs {
			f := &e.Funcs[i]
			b := &block{body: &f.Body, params: f.Params, level: c.b.level + 1}
			s = &scope{outer: s, kind: isFunction, name: f.Name, level: c.b.level, block: b}
			blocks = append(blocks, b)
		}
		for _, b := range blocks {
			b.scope = s
		}
		c.queue = append(c.queue, blocks...)
		c.expr(&e.Args[0], s)
	}
}

func (c *compiler) assign(e *api.Expr, s *scope) {
	w, state, p := c.slot(), c.slot(), c.slot()
	c.emit(api.IDup)
	c.expr(&e.Args[1], s)
	c.store(w)
	c.emit(api.IDup)
	c.store(state)
	end := c.jump(api.IFork)
	c.native("track", 0)
	c.expr(&e.Args[0], s)
	c.native("path", 0)
	c.store(p)
	c.load(state)
	c.load(p)
	c.load(w)
	c.native("setpath", 2)
	c.store(state)
	c.emit(api.IFail)
	end()
	c.emit(api.IPop)
	c.load(state)
}

func (c *compiler) update(e *api.Expr, s *scope) {
	state, removed, p, y := c.slot(), c.slot(), c.slot(), c.slot()
	label := c.b.labels
	c.b.labels++
	c.emit(api.IDup)
	paths := c.jump(api.IList)
	c.native("track", 0)
	c.expr(&e.Args[0], s)
	c.native("path", 0)
	c.emit(api.ICollect)
	paths()
	c.emit(api.ISwap)
	c.store(state)
	c.push(api.Value{Kind: api.VList})
	c.store(removed)
	end := c.jump(api.IFork)
	c.emit(api.IEach)
	c.store(p)
	c.emit(api.IMark).A = label
	none := c.jump(api.IFork)
	c.load(state)
	c.load(p)
	c.native("getpath", 1)
	c.expr(&e.Args[1], s)
	c.store(y)
	c.load(state)
	c.load(p)
	c.load(y)
	c.native("setpath", 2)
	c.store(state)
	c.emit(api.IBreak).A = label
	none()
	c.load(removed)
	c.load(p)
	one := c.jump(api.IList)
	c.emit(api.ICollect)
	one()
	c.named(api.IArith, "+")
	c.store(removed)
	c.emit(api.IFail)
	end()
	c.emit(api.IPop)
	c.load(state)
	c.load(removed)
	c.native("delpaths", 1)
}
