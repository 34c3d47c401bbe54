package meaning

import (
	"datakit/api"
	"datakit/builtin"
	"datakit/qpath"
)

func (r *Run) evalCall(t *task, x *item, out sink) *stop {
	where, f := t.env.callee(t.e.Name)
	if where != nil && f == nil {
		return r.deeper(where.arg, t.depth, x, out)
	}
	if where == nil {
		f = r.funcs[t.e.Name]
	}
	if f != nil {
		return r.bind(t, f, 0, where, x, out)
	}
	switch t.e.Name {
	case "path":
		return r.evalPaths(t, 0, x, func(p []api.Step) *stop { return out(&item{v: qpath.Value(p)}) })
	case "getpath":
		return r.eval(t.part(0), x, func(y *item) *stop { return getPath(x, y.v, out) })
	}
	return r.native(t, nil, x, out)
}

// deeper evaluates a body or an argument at a call depth greater by 1.
func (r *Run) deeper(body task, depth int, x *item, out sink) *stop {
	if depth == api.MaxFrames {
		return failure(api.ErrFuel)
	}
	body.depth = depth + 1
	return r.eval(&body, x, out)
}

// bind binds the parameters of a function from one on, and then evaluates the
// body. The env has those before it and what surrounds the function.
func (r *Run) bind(t *task, f *api.Func, i int, s *env, x *item, out sink) *stop {
	if i == len(f.Params) {
		return r.deeper(task{e: &f.Body, env: s}, t.depth, x, out)
	}
	name := f.Params[i].Name
	if !f.Params[i].Value {
		return r.bind(t, f, i+1, &env{outer: s, kind: isFilter, name: name, arg: *t.part(i)}, x, out)
	}
	return r.eval(t.part(i), x, func(y *item) *stop {
		return r.bind(t, f, i+1, &env{outer: s, kind: isVariable, name: name, val: y.v}, x, out)
	})
}

// native evaluates the arguments of a native function behind those that are
// given, and then applies it.
func (r *Run) native(t *task, args []api.Value, x *item, out sink) *stop {
	if len(args) < len(t.e.Args) {
		return r.eval(t.part(len(args)), x, func(y *item) *stop {
			return r.native(t, append(args[:len(args):len(args)], y.v), x, out)
		})
	}
	switch t.e.Name {
	case "setpath":
		p, err := qpath.Path(args[0])
		if err != api.OK {
			return failure(err)
		}
		v, err := qpath.Put(x.v, p, args[1])
		return plain(v, err, out)
	case "delpaths":
		v, err := deletePaths(x.v, args[0])
		return plain(v, err, out)
	}
	v, err := builtin.Apply(t.e.Name, x.v, args)
	if err == api.ErrUser {
		return &stop{err: err, val: v}
	}
	return plain(v, err, out)
}

func getPath(x *item, at api.Value, out sink) *stop {
	p, err := qpath.Path(at)
	if err != api.OK {
		return failure(err)
	}
	v, err := qpath.Get(x.v, p)
	if err != api.OK {
		return failure(err)
	}
	return x.pass(v, out, p...)
}

func deletePaths(v, list api.Value) (api.Value, api.Errno) {
	if list.Kind != api.VList {
		return api.Value{}, api.ErrKind
	}
	var paths [][]api.Step
	for _, x := range list.List {
		p, err := qpath.Path(x)
		if err != api.OK {
			return api.Value{}, err
		}
		paths = append(paths, p)
	}
	return qpath.Delete(v, paths)
}
