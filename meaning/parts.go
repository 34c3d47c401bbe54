package meaning

import (
	"slices"

	"datakit/api"
	"datakit/builtin"
	"datakit/qpath"
	"datakit/value"
)

// extended returns an item with the path of another one, extended by steps.
func (x *item) extended(v api.Value, steps ...api.Step) (*item, *stop) {
	if !x.has {
		return &item{v: v}, nil
	}
	if len(x.path)+len(steps) > api.MaxSteps {
		return nil, failure(api.ErrSize)
	}
	return &item{v: v, path: slices.Concat(x.path, steps), has: true}, nil
}

// pass passes on a value with the path of an item, extended by steps.
func (x *item) pass(v api.Value, out sink, steps ...api.Step) *stop {
	y, s := x.extended(v, steps...)
	if s != nil {
		return s
	}
	return out(y)
}

func (r *Run) evalPart(t *task, x *item, out sink) *stop {
	switch t.e.Op {
	case api.QRecurse:
		return recurse(x, out)
	case api.QField:
		return r.eval(t.part(0), x, func(y *item) *stop {
			return index(y, value.Text(t.e.Name), out)
		})
	case api.QIndex:
		return r.eval(t.part(0), x, func(y *item) *stop {
			return r.eval(t.part(1), x, func(i *item) *stop { return index(y, i.v, out) })
		})
	case api.QEach:
		return r.eval(t.part(0), x, func(y *item) *stop { return each(y, out) })
	}
	return r.eval(t.part(0), x, func(y *item) *stop {
		return r.bound(t, 1, x, func(from *item) *stop {
			return r.bound(t, 2, x, func(to *item) *stop {
				v, err := builtin.Slice(y.v, from.v, to.v)
				return plain(v, err, out)
			})
		})
	})
}

// bound evaluates a bound of a slice, which may be absent.
func (r *Run) bound(t *task, i int, x *item, out sink) *stop {
	if t.absent(i) {
		return out(&item{})
	}
	return r.eval(t.part(i), x, out)
}

func recurse(x *item, out sink) *stop {
	if s := out(x); s != nil {
		return s
	}
	if x.v.Kind != api.VList && x.v.Kind != api.VMap {
		return nil
	}
	return each(x, func(y *item) *stop { return recurse(y, out) })
}

func each(x *item, out sink) *stop {
	list, err := builtin.Each(x.v)
	if err != api.OK {
		return failure(err)
	}
	for i, v := range list {
		step := api.Step{ByIndex: true, Index: i}
		if x.v.Kind == api.VMap {
			step = api.Step{Key: x.v.Fields[i].Key}
		}
		if s := x.pass(v, out, step); s != nil {
			return s
		}
	}
	return nil
}

// index passes on an element or a field of an item.
func index(x *item, i api.Value, out sink) *stop {
	v, err := builtin.Index(x.v, i)
	if err != api.OK {
		return failure(err)
	}
	if !x.has {
		return out(&item{v: v})
	}
	if i.Kind == api.VNum && i.Num.Neg {
		// A sum that has no representation is as negative as the index.
		if sum, err := builtin.Arith("+", i, value.Int(len(x.v.List))); err == api.OK {
			i = sum
		}
	}
	step, err := qpath.Step(i)
	if err != api.OK {
		return failure(err)
	}
	return x.pass(v, out, step)
}

// evalPaths evaluates a part as a path expression on the value of an item.
func (r *Run) evalPaths(t *task, i int, x *item, out func(p []api.Step) *stop) *stop {
	return r.eval(t.part(i), &item{v: x.v, has: true}, func(y *item) *stop {
		if !y.has {
			return failure(api.ErrPath)
		}
		return out(y.path)
	})
}

func (r *Run) evalAssign(t *task, x *item, out sink) *stop {
	return r.eval(t.part(1), x, func(w *item) *stop {
		v := x.v
		s := r.evalPaths(t, 0, x, func(p []api.Step) *stop {
			next, err := qpath.Put(v, p, w.v)
			if err != api.OK {
				return failure(err)
			}
			v = next
			return nil
		})
		if s != nil {
			return s
		}
		return out(&item{v: v})
	})
}

func (r *Run) evalUpdate(t *task, x *item, out sink) *stop {
	var paths [][]api.Step
	list := api.Value{Kind: api.VList}
	s := r.evalPaths(t, 0, x, func(p []api.Step) *stop {
		paths = append(paths, p)
		list.List = append(list.List, qpath.Value(p))
		return nil
	})
	if s != nil {
		return s
	}
	if err := value.Check(list); err != api.OK {
		return failure(err)
	}
	var ended *stop
	v, err := qpath.Modify(x.v, paths, func(y api.Value) (api.Value, bool, api.Errno) {
		var found *item
		enough := &stop{}
		s := r.eval(t.part(1), &item{v: y}, func(z *item) *stop {
			found = z
			return enough
		})
		switch {
		case s == enough:
			return found.v, true, api.OK
		case s != nil:
			// The code only makes Modify end; what ended the filter is kept.
			ended = s
			return api.Value{}, false, api.ErrBreak
		}
		return api.Value{}, false, api.OK
	})
	if ended != nil {
		return ended
	}
	return plain(v, err, out)
}
