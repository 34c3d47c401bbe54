package meaning

import (
	"datakit/api"
	"datakit/builtin"
	"datakit/value"
)

// plain passes on a value without a path, or the error.
func plain(v api.Value, err api.Errno, out sink) *stop {
	if err != api.OK {
		return failure(err)
	}
	return out(&item{v: v})
}

// boolean passes on a boolean.
func boolean(b bool, out sink) *stop { return out(&item{v: value.Bool(b)}) }

// eval evaluates a task on an item. It is kept small, since evaluations are
// nested as deeply as the outputs of each are passed on within it.
func (r *Run) eval(t *task, x *item, out sink) *stop {
	if r.steps == r.fuel {
		return failure(api.ErrFuel)
	}
	r.steps++
	switch t.e.Op {
	case api.QIdentity:
		return out(x)
	case api.QRecurse, api.QField, api.QIndex, api.QSlice, api.QEach:
		return r.evalPart(t, x, out)
	case api.QPipe:
		return r.eval(t.part(0), x, func(y *item) *stop { return r.eval(t.part(1), y, out) })
	case api.QComma:
		if s := r.eval(t.part(0), x, out); s != nil {
			return s
		}
		return r.eval(t.part(1), x, out)
	case api.QNeg, api.QArith, api.QCompare, api.QAnd, api.QOr:
		return r.evalOperator(t, x, out)
	case api.QAlt, api.QTry, api.QIf:
		return r.evalChoice(t, x, out)
	case api.QReduce, api.QForeach:
		return r.evalFold(t, x, out)
	case api.QCall:
		return r.evalCall(t, x, out)
	case api.QList, api.QMap:
		return r.evalMake(t, x, out)
	case api.QAssign:
		return r.evalAssign(t, x, out)
	case api.QUpdate:
		return r.evalUpdate(t, x, out)
	}
	return r.evalName(t, x, out)
}

// evalName evaluates literals and what deals with names.
func (r *Run) evalName(t *task, x *item, out sink) *stop {
	switch t.e.Op {
	case api.QLit:
		return out(&item{v: t.e.Val})
	case api.QVar:
		return out(&item{v: t.env.find(isVariable, t.e.Name).val})
	case api.QBind:
		return r.eval(t.part(0), x, func(y *item) *stop { return r.eval(t.with(1, y.v), x, out) })
	case api.QDef:
		return r.eval(&task{&t.e.Args[0], &env{outer: t.env, kind: isFuncs, funcs: t.e.Funcs}, t.depth}, x, out)
	case api.QBreak:
		return &stop{label: t.env.find(isLabel, t.e.Name)}
	}
	label := &env{outer: t.env, kind: isLabel, name: t.e.Name}
	s := r.eval(&task{&t.e.Args[0], label, t.depth}, x, out)
	if s != nil && s.label == label {
		return nil
	}
	return s
}

// two evaluates two parts and passes on each pair of outputs.
func (r *Run) two(t *task, x *item, out func(a, b api.Value) *stop) *stop {
	return r.eval(t.part(0), x, func(a *item) *stop {
		return r.eval(t.part(1), x, func(b *item) *stop { return out(a.v, b.v) })
	})
}

func (r *Run) evalOperator(t *task, x *item, out sink) *stop {
	switch t.e.Op {
	case api.QNeg:
		return r.eval(t.part(0), x, func(y *item) *stop {
			v, err := builtin.Neg(y.v)
			return plain(v, err, out)
		})
	case api.QArith:
		return r.two(t, x, func(a, b api.Value) *stop {
			v, err := builtin.Arith(t.e.Name, a, b)
			return plain(v, err, out)
		})
	case api.QCompare:
		return r.two(t, x, func(a, b api.Value) *stop {
			is, err := builtin.Compare(t.e.Name, a, b)
			return plain(value.Bool(is), err, out)
		})
	}
	return r.eval(t.part(0), x, func(a *item) *stop {
		if truth := value.Truth(a.v); truth == (t.e.Op == api.QOr) {
			return boolean(truth, out)
		}
		return r.eval(t.part(1), x, func(b *item) *stop { return boolean(value.Truth(b.v), out) })
	})
}

func (r *Run) evalChoice(t *task, x *item, out sink) *stop {
	switch t.e.Op {
	case api.QAlt:
		return r.evalAlt(t, x, out)
	case api.QTry:
		return r.evalTry(t, x, out)
	}
	return r.eval(t.part(0), x, func(y *item) *stop {
		switch {
		case value.Truth(y.v):
			return r.eval(t.part(1), x, out)
		case t.absent(2):
			return out(x)
		}
		return r.eval(t.part(2), x, out)
	})
}

func (r *Run) evalAlt(t *task, x *item, out sink) *stop {
	found := false
	s := r.eval(t.part(0), x, func(y *item) *stop {
		if !value.Truth(y.v) {
			return nil
		}
		found = true
		return out(y)
	})
	if s != nil || found {
		return s
	}
	return r.eval(t.part(1), x, out)
}

// evalTry tells the errors of the body from those that occur while an output is
// passed on: these come back through the sink first.
func (r *Run) evalTry(t *task, x *item, out sink) *stop {
	var passed *stop
	s := r.eval(t.part(0), x, func(y *item) *stop {
		passed = out(y)
		return passed
	})
	if s == nil || s == passed || s.err == api.OK || s.err == api.ErrFuel {
		return s
	}
	if t.absent(1) {
		return nil
	}
	return r.eval(t.part(1), &item{v: s.val}, out)
}

func (r *Run) evalFold(t *task, x *item, out sink) *stop {
	return r.eval(t.part(1), x, func(first *item) *stop {
		state := first.v
		if t.e.Op == api.QForeach {
			return r.eval(t.part(0), x, func(y *item) *stop { return r.foreachStep(t, y.v, &state, out) })
		}
		s := r.eval(t.part(0), x, func(y *item) *stop {
			before := state
			state = api.Value{}
			var last api.Value
			s := r.eval(t.with(2, y.v), &item{v: before}, func(z *item) *stop {
				last = z.v
				return nil
			})
			state = last
			return s
		})
		if s != nil {
			return s
		}
		return out(&item{v: state})
	})
}

func (r *Run) foreachStep(t *task, v api.Value, state *api.Value, out sink) *stop {
	return r.eval(t.with(2, v), &item{v: *state}, func(z *item) *stop {
		*state = z.v
		if t.absent(3) {
			return out(&item{v: z.v})
		}
		return r.eval(t.with(3, v), &item{v: z.v}, out)
	})
}

func (r *Run) evalMake(t *task, x *item, out sink) *stop {
	if t.e.Op == api.QMap {
		return r.fields(t, 0, nil, x, out)
	}
	list := api.Value{Kind: api.VList}
	if !t.absent(0) {
		s := r.eval(t.part(0), x, func(y *item) *stop {
			list.List = append(list.List, y.v)
			return nil
		})
		if s != nil {
			return s
		}
	}
	return plain(list, value.Check(list), out)
}

// fields evaluates the pairs of a map from one argument on; done has the fields
// before them.
func (r *Run) fields(t *task, i int, done []api.Field, x *item, out sink) *stop {
	if i == len(t.e.Args) {
		v := api.Value{Kind: api.VMap, Fields: done}
		return plain(v, value.Check(v), out)
	}
	return r.eval(t.part(i), x, func(key *item) *stop {
		if key.v.Kind != api.VText {
			return failure(api.ErrKind)
		}
		return r.eval(t.part(i+1), x, func(y *item) *stop {
			return r.fields(t, i+2, withField(done, key.v.Text, y.v), x, out)
		})
	})
}

// withField returns other fields, of which one has the key and the value.
func withField(fields []api.Field, key string, v api.Value) []api.Field {
	out := append([]api.Field(nil), fields...)
	for i := range out {
		if out[i].Key == key {
			out[i].Val = v
			return out
		}
	}
	return append(out, api.Field{Key: key, Val: v})
}
