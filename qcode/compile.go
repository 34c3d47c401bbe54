package qcode

import (
	"strings"

	"datakit/api"
	"datakit/value"
)

// block is code with a frame of its own: the main code, a function, or a filter
// that is an argument. Its address is known when it has been compiled.
type block struct {
	body    *api.Expr
	params  []api.Param
	scope   *scope
	level   int // how many blocks surround it
	slots   int // variables that are in use
	labels  int
	address int
	calls   []func() // what is to be corrected when the address is known
}

// What a scope adds to the one around it.
const (
	isVariable = iota
	isLabel
	isFilter
	isFunction
)

type scope struct {
	outer  *scope
	kind   int
	name   string
	number int // of a variable, a label or a parameter
	level  int // of the block that has it
	block  *block
}

func (s *scope) find(kind int, name string) *scope {
	for s.kind != kind || s.name != name {
		s = s.outer
	}
	return s
}

// callee returns the filter or the local function that a call names, or nil.
func (s *scope) callee(name string) *scope {
	if strings.Contains(name, "::") {
		return nil
	}
	for s != nil && (s.name != name || s.kind != isFilter && s.kind != isFunction) {
		s = s.outer
	}
	return s
}

// compiler compiles one block after the other.
type compiler struct {
	ops     []api.Instr
	queue   []*block
	funcs   map[string]*block
	recurse *block // the code of .., which has no expression
	b       *block // the block that is being compiled
}

func compile(p *api.Program) api.Code {
	c := &compiler{funcs: map[string]*block{}}
	for i := range p.Funcs {
		f := &p.Funcs[i]
		c.funcs[f.Name] = &block{body: &f.Body, params: f.Params}
	}
	c.b = &block{body: &p.Main}
	c.expr(&p.Main, nil)
	c.emit(api.IOutput)
	for i := range p.Funcs {
		c.compileBlock(c.funcs[p.Funcs[i].Name])
	}
	for len(c.queue) > 0 {
		next := c.queue[0]
		c.queue = c.queue[1:]
		c.compileBlock(next)
	}
	if c.recurse != nil {
		c.compileRecurse()
	}
	return api.Code{Ops: c.ops}
}

func (c *compiler) emit(op int) *api.Instr {
	c.ops = append(c.ops, api.Instr{Op: op})
	return &c.ops[len(c.ops)-1]
}

func (c *compiler) named(op int, name string) { c.emit(op).Name = name }

func (c *compiler) native(name string, args int) {
	x := c.emit(api.IBuiltin)
	x.Name, x.A = name, args
}

func (c *compiler) push(v api.Value) { c.emit(api.IPush).Val = v }

func (c *compiler) load(slot int) { c.emit(api.ILoad).A = slot }

func (c *compiler) store(slot int) { c.emit(api.IStore).A = slot }

// all emits instructions that have only an operator.
func (c *compiler) all(ops ...int) {
	for _, op := range ops {
		c.emit(op)
	}
}

// slot returns a variable of the block that is used for nothing else.
func (c *compiler) slot() int {
	c.b.slots++
	return c.b.slots - 1
}

// jump emits an instruction with an address, and returns a function that makes
// it the address of what follows.
func (c *compiler) jump(op int) func() {
	at := len(c.ops)
	c.emit(op)
	return func() { c.ops[at].A = len(c.ops) }
}

// to makes the address of an instruction that was emitted that of a block.
func (c *compiler) to(at int, b *block) {
	b.calls = append(b.calls, func() { c.ops[at].A = b.address })
}

func (c *compiler) begin(b *block) {
	c.b = b
	b.address = len(c.ops)
}

// end corrects the addresses by which a block is called.
func (b *block) end() {
	for _, correct := range b.calls {
		correct()
	}
	b.calls = nil
}

// compileBlock compiles a function or a filter. Calls that come later, also
// those in the block itself, are corrected when all blocks are compiled.
func (c *compiler) compileBlock(b *block) {
	c.begin(b)
	s := b.scope
	for i, p := range b.params {
		if !p.Value {
			s = &scope{outer: s, kind: isFilter, name: p.Name, number: i, level: b.level}
			continue
		}
		slot := c.slot()
		c.emit(api.IDup)
		c.emit(api.IInvoke).A = i
		c.store(slot)
		s = &scope{outer: s, kind: isVariable, name: p.Name, number: slot, level: b.level}
	}
	c.expr(b.body, s)
	c.emit(api.IReturn)
	b.end()
}

// compileRecurse compiles the code of .., which passes on its input and then
// calls itself for each part of it.
func (c *compiler) compileRecurse() {
	c.begin(c.recurse)
	first := c.jump(api.IFork)
	c.emit(api.IReturn)
	first()
	isKind := func(kind int) func() {
		c.emit(api.IDup)
		c.native("type", 0)
		c.push(value.Text(value.Name(kind)))
		c.named(api.ICompare, "==")
		return c.jump(api.IBranch)
	}
	noList := isKind(api.VList)
	list := c.jump(api.IJump)
	noList()
	noMap := isKind(api.VMap)
	list()
	c.emit(api.IEach)
	c.emit(api.ICall).A = c.recurse.address
	c.emit(api.IReturn)
	noMap()
	c.emit(api.IFail)
	c.recurse.end()
}

// closure emits the closure of an argument.
func (c *compiler) closure(e *api.Expr, s *scope) {
	b := &block{body: e, scope: s, level: c.b.level + 1}
	c.queue = append(c.queue, b)
	c.to(len(c.ops), b)
	c.emit(api.IClosure)
}

func (c *compiler) call(e *api.Expr, s *scope) {
	local := s.callee(e.Name)
	if local != nil && local.kind == isFilter {
		x := c.emit(api.IInvoke)
		x.A, x.B = local.number, c.b.level-local.level
		return
	}
	target := c.funcs[e.Name]
	if local != nil {
		target = local.block
	}
	if target == nil {
		c.nativeCall(e, s)
		return
	}
	for i := range e.Args {
		c.closure(&e.Args[i], s)
	}
	if local == nil {
		c.toBlock(api.ICall, target).B = len(e.Args)
		return
	}
	c.toBlock(api.IClosure, target).B = c.b.level - local.level
	x := c.emit(api.ICall)
	x.A, x.B = -1, len(e.Args)
}

// toBlock emits an instruction with the address of a block, which may be known
// already or not.
func (c *compiler) toBlock(op int, b *block) *api.Instr {
	at := len(c.ops)
	c.to(at, b)
	x := c.emit(op)
	x.A = b.address
	return x
}

func (c *compiler) nativeCall(e *api.Expr, s *scope) {
	if e.Name == "path" {
		c.native("track", 0)
		c.expr(&e.Args[0], s)
		c.native("path", 0)
		return
	}
	if len(e.Args) > 0 {
		c.emit(api.IDup)
		for i := range e.Args {
			c.emit(api.IDup)
			c.expr(&e.Args[i], s)
			c.emit(api.ISwap)
		}
		c.emit(api.IPop)
	}
	c.native(e.Name, len(e.Args))
}
