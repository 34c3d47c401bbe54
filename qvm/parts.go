package qvm

import (
	"slices"

	"datakit/api"
	"datakit/builtin"
	"datakit/qpath"
	"datakit/value"
)

// extended returns a value with the path of an item, extended by steps.
func (e *entry) extended(v api.Value, steps ...api.Step) (*entry, api.Errno) {
	if !e.has {
		return &entry{v: v}, api.OK
	}
	if len(e.path)+len(steps) > api.MaxSteps {
		return nil, api.ErrSize
	}
	return &entry{v: v, path: slices.Concat(e.path, steps), has: true}, api.OK
}

// pushPart pushes a value with the path of an item, extended by steps.
func (m *Machine) pushPart(e *entry, v api.Value, steps ...api.Step) (outcome, failure) {
	x, err := e.extended(v, steps...)
	if err != api.OK {
		return raise, errorOf(err)
	}
	m.push(x)
	return next, failure{}
}

func (m *Machine) part(x *api.Instr) (outcome, failure) {
	switch x.Op {
	case api.IField:
		if e := m.pop(); e != nil {
			return m.index(e, value.Text(x.Name))
		}
	case api.IIndex:
		if list := m.pops(2); list != nil {
			return m.index(list[0], list[1].v)
		}
	case api.ISlice:
		if list := m.pops(3); list != nil {
			return m.pushed(builtin.Slice(list[0].v, list[1].v, list[2].v))
		}
	case api.IEach:
		if e := m.pop(); e != nil {
			return m.each(e)
		}
	}
	return broken, failure{}
}

func (m *Machine) index(e *entry, i api.Value) (outcome, failure) {
	v, err := builtin.Index(e.v, i)
	if err != api.OK {
		return raise, errorOf(err)
	}
	if !e.has {
		return m.pushed(v, api.OK)
	}
	if i.Kind == api.VNum && i.Num.Neg {
		// A sum that has no representation is as negative as the index.
		if sum, err := builtin.Arith("+", i, value.Int(len(e.v.List))); err == api.OK {
			i = sum
		}
	}
	step, err := qpath.Step(i)
	if err != api.OK {
		return raise, errorOf(err)
	}
	return m.pushPart(e, v, step)
}

func (m *Machine) each(e *entry) (outcome, failure) {
	list, err := builtin.Each(e.v)
	if err != api.OK {
		return raise, errorOf(err)
	}
	var items []*entry
	for i, v := range list {
		step := api.Step{ByIndex: true, Index: i}
		if e.v.Kind == api.VMap {
			step = api.Step{Key: e.v.Fields[i].Key}
		}
		x, err := e.extended(v, step)
		if err != api.OK {
			return raise, errorOf(err)
		}
		x.below = m.now.top
		items = append(items, x)
	}
	if len(items) == 0 {
		return backtrack, failure{}
	}
	if len(items) > 1 {
		at := m.now
		at.address++
		m.forks.push(fork{kind: isItems, at: at, items: items[1:]})
	}
	m.now.top = items[0]
	return next, failure{}
}

func (m *Machine) getPath(in *entry, at api.Value) (outcome, failure) {
	p, err := qpath.Path(at)
	if err != api.OK {
		return raise, errorOf(err)
	}
	v, err := qpath.Get(in.v, p)
	if err != api.OK {
		return raise, errorOf(err)
	}
	return m.pushPart(in, v, p...)
}

func deletePaths(v, list api.Value) (api.Value, api.Errno) {
	if list.Kind != api.VList {
		return api.Value{}, api.ErrKind
	}
	var paths [][]api.Step
	for _, x := range list.List {
		p, err := qpath.Path(x)
		if err != api.OK {
			return api.Value{}, err
		}
		paths = append(paths, p)
	}
	return qpath.Delete(v, paths)
}
