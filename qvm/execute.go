package qvm

import (
	"datakit/api"
	"datakit/builtin"
	"datakit/qpath"
	"datakit/value"
)

// pushed pushes a value without a path, or raises the error.
func (m *Machine) pushed(v api.Value, err api.Errno) (outcome, failure) {
	if err != api.OK {
		return raise, errorOf(err)
	}
	m.push(&entry{v: v})
	return next, failure{}
}

func (m *Machine) push(e *entry) {
	e.below = m.now.top
	m.now.top = e
}

// pop removes the entry on top. It returns nil unless that is an item.
func (m *Machine) pop() *entry {
	e := m.now.top
	if e == nil || e.closure != nil {
		return nil
	}
	m.now.top = e.below
	return e
}

// popClosure removes the entry on top. It returns nil unless that is a closure.
func (m *Machine) popClosure() *closure {
	e := m.now.top
	if e == nil || e.closure == nil {
		return nil
	}
	m.now.top = e.below
	return e.closure
}

// pops removes n items and returns them, that on top last, or nil.
func (m *Machine) pops(n int) []*entry {
	list := make([]*entry, n)
	for i := n - 1; i >= 0; i-- {
		if list[i] = m.pop(); list[i] == nil {
			return nil
		}
	}
	return list
}

// up returns the frame n frames up, or nil.
func (m *Machine) up(n int) *frame {
	f := m.now.frame
	for ; n > 0 && f != nil; n-- {
		f = f.parent
	}
	return f
}

func (m *Machine) onItem() bool { return m.now.top != nil && m.now.top.closure == nil }

func (m *Machine) execute(x *api.Instr) (outcome, failure) {
	switch x.Op {
	case api.IPush:
		return m.pushed(x.Val, api.OK)
	case api.IDup, api.IPop, api.ISwap:
		return m.arrange(x.Op), failure{}
	case api.ILoad, api.IStore:
		return m.variable(x)
	case api.IField, api.IIndex, api.ISlice, api.IEach:
		return m.part(x)
	case api.IArith, api.ICompare, api.IMap, api.IBuiltin:
		return m.apply(x)
	case api.IFork, api.IList, api.ICollect, api.IFail, api.IMark, api.IBreak:
		return m.forking(x), failure{}
	case api.IJump, api.IBranch, api.ITry, api.IDone:
		return m.control(x), failure{}
	case api.ICall, api.IReturn, api.IClosure, api.IInvoke:
		return m.calling(x)
	case api.IRaise:
		f := errorOf(api.Errno(x.A))
		if f.err == api.ErrUser {
			f.val = api.Value{}
		}
		return raise, f
	}
	if !m.onItem() {
		return broken, failure{}
	}
	return output, failure{}
}

func (m *Machine) arrange(op int) outcome {
	a := m.pop()
	if a == nil {
		return broken
	}
	switch op {
	case api.IDup:
		m.now.top = a
		m.push(&entry{v: a.v, path: a.path, has: a.has})
	case api.ISwap:
		b := m.pop()
		if b == nil {
			return broken
		}
		m.push(&entry{v: a.v, path: a.path, has: a.has})
		m.push(&entry{v: b.v, path: b.path, has: b.has})
	}
	return next
}

func (m *Machine) variable(x *api.Instr) (outcome, failure) {
	f := m.up(x.B)
	if f == nil {
		return broken, failure{}
	}
	if x.Op == api.ILoad {
		v, ok := f.vars[x.A]
		if !ok {
			return broken, failure{}
		}
		return m.pushed(v, api.OK)
	}
	e := m.pop()
	if e == nil {
		return broken, failure{}
	}
	if f.vars == nil {
		f.vars = map[int]api.Value{}
	}
	f.vars[x.A] = e.v
	return next, failure{}
}

func (m *Machine) forking(x *api.Instr) outcome {
	switch x.Op {
	case api.IFork:
		at := m.now
		at.address = x.A
		m.forks.push(fork{at: at})
	case api.IList:
		if !m.onItem() {
			return broken
		}
		at := m.now
		at.address = x.A
		m.forks.push(fork{kind: isCollector, at: at})
	case api.ICollect:
		return m.collect()
	case api.IMark:
		f := m.now.frame
		if f.labels == nil {
			f.labels = map[int]int{}
		}
		f.labels[x.A] = m.forks.size()
	case api.IBreak:
		f := m.up(x.B)
		if f == nil {
			return broken
		}
		n, ok := f.labels[x.A]
		if !ok {
			return broken
		}
		m.forks.cut(n)
		return backtrack
	default:
		return backtrack
	}
	return next
}

func (m *Machine) collect() outcome {
	e := m.pop()
	if e == nil {
		return broken
	}
	for i := m.forks.size() - 1; i >= 0; i-- {
		if f := &m.forks.list[i]; f.kind == isCollector {
			f.list = append(f.list, e.v)
			return backtrack
		}
	}
	return broken
}

func (m *Machine) control(x *api.Instr) outcome {
	switch x.Op {
	case api.IJump:
		m.now.address = x.A
		return jumped
	case api.IBranch:
		e := m.pop()
		if e == nil {
			return broken
		}
		if value.Truth(e.v) {
			return next
		}
		m.now.address = x.A
		return jumped
	case api.ITry:
		if !m.onItem() {
			return broken
		}
		m.now.handlers = &handler{outer: m.now.handlers, address: x.A, at: m.now, forks: m.forks.size()}
		return next
	}
	if m.now.handlers == nil {
		return broken
	}
	m.now.handlers = m.now.handlers.outer
	return next
}

func (m *Machine) calling(x *api.Instr) (outcome, failure) {
	switch x.Op {
	case api.IReturn:
		f := m.now.frame
		if f.back == nil {
			return broken, failure{}
		}
		m.now.address, m.now.frame = f.after, f.back
		return jumped, failure{}
	case api.IClosure:
		f := m.up(x.B)
		if f == nil {
			return broken, failure{}
		}
		m.push(&entry{closure: &closure{x.A, f}})
		return next, failure{}
	case api.IInvoke:
		f := m.up(x.B)
		if f == nil || x.A >= len(f.args) {
			return broken, failure{}
		}
		return m.call(f.args[x.A], nil)
	}
	target := &closure{address: x.A}
	if x.A == -1 {
		if target = m.popClosure(); target == nil {
			return broken, failure{}
		}
	}
	args := make([]*closure, x.B)
	for i := x.B - 1; i >= 0; i-- {
		if args[i] = m.popClosure(); args[i] == nil {
			return broken, failure{}
		}
	}
	return m.call(target, args)
}

func (m *Machine) call(target *closure, args []*closure) (outcome, failure) {
	here := m.now.frame
	if here.depth == api.MaxFrames {
		return raise, errorOf(api.ErrFuel)
	}
	m.now.frame = &frame{parent: target.frame, args: args, back: here, after: m.now.address + 1, depth: here.depth + 1}
	m.now.address = target.address
	return jumped, failure{}
}

func (m *Machine) apply(x *api.Instr) (outcome, failure) {
	switch x.Op {
	case api.IMap:
		return m.makeMap(x.A)
	case api.IBuiltin:
		return m.native(x.Name, x.A)
	}
	args := m.pops(2)
	if args == nil {
		return broken, failure{}
	}
	if x.Op == api.IArith {
		return m.pushed(builtin.Arith(x.Name, args[0].v, args[1].v))
	}
	is, err := builtin.Compare(x.Name, args[0].v, args[1].v)
	return m.pushed(value.Bool(is), err)
}

func (m *Machine) makeMap(n int) (outcome, failure) {
	list := m.pops(2 * n)
	if list == nil {
		return broken, failure{}
	}
	v := api.Value{Kind: api.VMap}
	places := map[string]int{}
	for i := 0; i < len(list); i += 2 {
		key := list[i].v
		if key.Kind != api.VText {
			return raise, errorOf(api.ErrKind)
		}
		at, ok := places[key.Text]
		if !ok {
			at = len(v.Fields)
			places[key.Text] = at
			v.Fields = append(v.Fields, api.Field{Key: key.Text})
		}
		v.Fields[at].Val = list[i+1].v
	}
	return m.pushed(v, value.Check(v))
}

func (m *Machine) native(name string, n int) (outcome, failure) {
	list := m.pops(n + 1)
	if list == nil {
		return broken, failure{}
	}
	in := list[0]
	var args []api.Value
	for _, e := range list[1:] {
		args = append(args, e.v)
	}
	switch name {
	case "track":
		m.push(&entry{v: in.v, has: true})
		return next, failure{}
	case "path":
		if !in.has {
			return raise, errorOf(api.ErrPath)
		}
		return m.pushed(qpath.Value(in.path), api.OK)
	case "getpath":
		return m.getPath(in, args[0])
	case "setpath":
		p, err := qpath.Path(args[0])
		if err != api.OK {
			return raise, errorOf(err)
		}
		return m.pushed(qpath.Put(in.v, p, args[1]))
	case "delpaths":
		return m.pushed(deletePaths(in.v, args[0]))
	}
	v, err := builtin.Apply(name, in.v, args)
	if err == api.ErrUser {
		return raise, failure{err, v}
	}
	return m.pushed(v, err)
}
