// Package meaning evaluates expressions of the query language, for the meaning of
// whole queries and for parts of queries that are executed on streams.
package meaning

import (
	"slices"

	"datakit/api"
	"datakit/value"
)

// Run has the functions of a program and the steps of all evaluations.
type Run struct {
	funcs map[string]*api.Func
	steps int
	fuel  int
}

// New returns a run that has no steps so far.
func New(funcs []api.Func, fuel int) *Run {
	r := &Run{funcs: map[string]*api.Func{}, fuel: min(max(fuel, 0), api.MaxFuel)}
	for i := range funcs {
		r.funcs[funcs[i].Name] = &funcs[i]
	}
	return r
}

// Steps returns the number of steps of all evaluations so far.
func (r *Run) Steps() int { return r.steps }

// Eval evaluates an expression, without variables, to its end.
func (r *Run) Eval(e *api.Expr, in api.Value) api.Outcome {
	return r.all(&task{e: e}, in)
}

// EvalWith evaluates an expression with one variable to its end.
func (r *Run) EvalWith(e *api.Expr, name string, v, in api.Value) api.Outcome {
	return r.all(&task{e: e, env: &env{kind: isVariable, name: name, val: v}}, in)
}

func (r *Run) all(t *task, in api.Value) api.Outcome {
	var out []api.Value
	s := r.eval(t, &item{v: in}, func(y *item) *stop { return collect(&out, y) })
	return r.outcome(out, s)
}

// collect takes an output of a program.
func collect(out *[]api.Value, y *item) *stop {
	if len(*out) == api.MaxOutputs {
		return failure(api.ErrFuel)
	}
	*out = append(*out, value.Copy(y.v))
	return nil
}

// Paths evaluates a path expression to its end.
func (r *Run) Paths(e *api.Expr, in api.Value) ([][]api.Step, api.Outcome) {
	var out []api.Value
	var paths [][]api.Step
	s := r.eval(&task{e: e}, &item{v: in, has: true}, func(y *item) *stop {
		if len(out) < api.MaxOutputs && !y.has {
			return failure(api.ErrPath)
		}
		if s := collect(&out, y); s != nil {
			return s
		}
		paths = append(paths, slices.Clone(y.path))
		return nil
	})
	return paths, r.outcome(out, s)
}

// First evaluates an expression up to its first output.
func (r *Run) First(e *api.Expr, in api.Value) (api.Value, bool, api.Outcome) {
	var found *item
	enough := &stop{}
	s := r.eval(&task{e: e}, &item{v: in}, func(y *item) *stop {
		found = y
		return enough
	})
	if s != enough {
		return api.Value{}, false, r.outcome(nil, s)
	}
	return value.Copy(found.v), true, r.outcome([]api.Value{value.Copy(found.v)}, nil)
}

func (r *Run) outcome(out []api.Value, s *stop) api.Outcome {
	o := api.Outcome{Out: out, Steps: r.steps}
	if s != nil {
		o.Err = s.err
		if s.err == api.ErrUser {
			o.Val = value.Copy(s.val)
		}
	}
	return o
}

// stop is what ends evaluations: an error with its value, a break of a label, or
// neither of them, if what begot it has enough.
type stop struct {
	err   api.Errno
	val   api.Value
	label *env
}

// failure returns an error; its value is its name.
func failure(err api.Errno) *stop { return &stop{err: err, val: value.Text(err.Error())} }

// item is a value that may have a path.
type item struct {
	v    api.Value
	path []api.Step
	has  bool
}

// sink takes the outputs of an evaluation.
type sink func(y *item) *stop
