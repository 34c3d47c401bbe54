package module

import (
	"slices"
	"strings"

	"datakit/api"
	"datakit/qparse"
)

// linker has the modules that take part in a program, by their names.
type linker struct {
	main    string
	modules map[string]*api.Module
}

// Link makes a program of a main module and libraries.
func Link(main api.Module, l []api.Module) (api.Program, api.Errno) {
	if _, err := qparse.ModuleText(main); err != api.OK {
		return api.Program{}, err
	}
	if main.Main.Op == api.QNone {
		return api.Program{}, api.ErrArg
	}
	order, err := Order(l)
	if err != api.OK {
		return api.Program{}, err
	}
	k, err := newLinker(&main, l)
	if err != api.OK {
		return api.Program{}, err
	}
	parts := []*api.Module{&main}
	for _, i := range order {
		if k.modules[l[i].Name] != nil {
			parts = append(parts, &l[i])
		}
	}
	for _, m := range parts {
		if err := k.check(m); err != api.OK {
			return api.Program{}, err
		}
	}
	return k.program(append(parts, k.modules[preludeName]))
}

// newLinker finds the modules that take part.
func newLinker(main *api.Module, l []api.Module) (*linker, api.Errno) {
	library := map[string]*api.Module{}
	for i := range l {
		library[l[i].Name] = &l[i]
	}
	if main.Name == preludeName || library[main.Name] != nil {
		return nil, api.ErrExists
	}
	own := prelude()
	k := &linker{main: main.Name, modules: map[string]*api.Module{main.Name: main, preludeName: &own}}
	for queue := []*api.Module{main}; len(queue) > 0; queue = queue[1:] {
		for _, x := range queue[0].Imports {
			m := library[x.Module]
			if m == nil {
				return nil, api.ErrNotFound
			}
			if k.modules[x.Module] == nil {
				k.modules[x.Module] = m
				queue = append(queue, m)
			}
		}
	}
	return k, api.OK
}

func function(m *api.Module, name string) *api.Func {
	for i := range m.Funcs {
		if m.Funcs[i].Name == name {
			return &m.Funcs[i]
		}
	}
	return nil
}

// newName returns the name of a function in the program.
func (k *linker) newName(m *api.Module, name string) string {
	if _, native := nativeArity(name); m.Name == k.main && !native {
		return name
	}
	return m.Name + "::" + name
}

// resolve returns the name in the program, and the number of parameters, of the
// function that a call in a module names.
func (k *linker) resolve(m *api.Module, name string) (string, int, bool) {
	if as, rest, ok := strings.Cut(name, "::"); ok {
		return k.imported(m, as, rest)
	}
	if f := function(m, name); f != nil {
		return k.newName(m, name), len(f.Params), true
	}
	if found, n, ok := k.imported(m, "", name); ok {
		return found, n, true
	}
	if n, ok := nativeArity(name); ok {
		return name, n, true
	}
	own := k.modules[preludeName]
	if f := function(own, name); f != nil {
		return k.newName(own, name), len(f.Params), true
	}
	return "", 0, false
}

// imported finds a function in the modules that are imported under a name.
func (k *linker) imported(m *api.Module, as, name string) (string, int, bool) {
	for _, x := range m.Imports {
		if x.As != as {
			continue
		}
		if f := function(k.modules[x.Module], name); f != nil {
			return k.newName(k.modules[x.Module], name), len(f.Params), true
		}
	}
	return "", 0, false
}

// check checks the names in a module.
func (k *linker) check(m *api.Module) api.Errno {
	v := &visitor{strict: true, call: func(e *api.Expr) api.Errno {
		_, n, ok := k.resolve(m, e.Name)
		return checkCall(n, ok, len(e.Args))
	}}
	for i := range m.Funcs {
		if err := v.visit(&m.Funcs[i].Body, params(nil, &m.Funcs[i])); err != api.OK {
			return err
		}
	}
	if m.Name != k.main {
		return api.OK
	}
	return v.visit(&m.Main, nil)
}

// program makes the program of modules of which the first is the main one.
func (k *linker) program(parts []*api.Module) (api.Program, api.Errno) {
	var p api.Program
	for _, m := range parts {
		rename := func(e *api.Expr, s *scope) string {
			name, _, _ := k.resolve(m, e.Name)
			return name
		}
		for i := range m.Funcs {
			f := copyFunc(&m.Funcs[i], rename)
			f.Name = k.newName(m, f.Name)
			p.Funcs = append(p.Funcs, f)
		}
		if m.Name == k.main {
			p.Main = copyExpr(&m.Main, nil, rename)
		}
	}
	if len(p.Funcs) > api.MaxFuncs {
		return api.Program{}, api.ErrSize
	}
	slices.SortFunc(p.Funcs, func(a, b api.Func) int { return strings.Compare(a.Name, b.Name) })
	return p, api.OK
}
