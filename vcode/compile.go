package vcode

import (
	"slices"
	"strings"

	"datakit/api"
	"datakit/automaton"
	"datakit/formats"
	"datakit/regex"
	"datakit/schema"
	"datakit/value"
)

// Compile compiles schemas.
func Compile(s api.Schemas) (api.Checker, api.Errno) {
	if err := schema.Check(s); err != api.OK {
		return api.Checker{}, err
	}
	c := &compiler{defs: map[string]*api.Schema{}, nodes: map[string]int{}, machines: map[string]api.Machine{}}
	for i := range s.Defs {
		c.defs[s.Defs[i].Name] = &s.Defs[i].Schema
		if err := c.build(&s.Defs[i].Schema); err != api.OK {
			return api.Checker{}, err
		}
	}
	if err := c.build(&s.Root); err != api.OK {
		return api.Checker{}, err
	}
	c.node(&s.Root)
	return api.Checker{Nodes: c.list}, api.OK
}

// compiler makes nodes of schemas.
type compiler struct {
	defs     map[string]*api.Schema
	nodes    map[string]int         // of the definitions
	machines map[string]api.Machine // of the texts of patterns
	list     []api.Check
}

// patternOf returns the pattern of a schema that has one.
func patternOf(x *api.Schema) (api.Pattern, bool) {
	switch x.Op {
	case api.SMatch:
		return x.Pattern, true
	case api.SFormat:
		p, err := formats.Pattern(x.Name)
		return p, err == api.OK
	}
	return api.Pattern{}, false
}

// build builds the automata of all patterns in a schema.
func (c *compiler) build(x *api.Schema) api.Errno {
	if p, ok := patternOf(x); ok {
		text := regex.Text(p)
		if _, known := c.machines[text]; !known {
			m, err := automaton.Build(p)
			if err != api.OK {
				return err
			}
			c.machines[text] = m
		}
	}
	for i := range x.Props {
		if err := c.build(&x.Props[i].Schema); err != api.OK {
			return err
		}
	}
	for i := range x.Args {
		if err := c.build(&x.Args[i]); err != api.OK {
			return err
		}
	}
	return api.OK
}

// node returns the number of the node of a schema; a reference has that of its
// definition.
func (c *compiler) node(x *api.Schema) int {
	if x.Op == api.SRef {
		if n, ok := c.nodes[x.Name]; ok {
			return n
		}
		target := c.defs[x.Name]
		if target.Op != api.SRef {
			// The number is known before the node is made, which may refer to itself.
			c.nodes[x.Name] = len(c.list)
		}
		return c.node(target)
	}
	number := len(c.list)
	c.list = append(c.list, api.Check{})
	n := api.Check{Op: x.Op, Mask: x.Mask, Min: x.Min, Max: x.Max}
	n.Set.Parts = slices.Clone(x.Set.Parts)
	for _, v := range x.Vals {
		n.Vals = append(n.Vals, value.Copy(v))
	}
	if p, ok := patternOf(x); ok {
		n.Op = api.SMatch
		n.Machine = copied(c.machines[regex.Text(p)])
	}
	props := make([]*api.Prop, len(x.Props))
	for i := range props {
		props[i] = &x.Props[i]
	}
	slices.SortFunc(props, func(a, b *api.Prop) int { return strings.Compare(a.Key, b.Key) })
	for _, p := range props {
		n.Keys = append(n.Keys, p.Key)
		n.Required = append(n.Required, p.Required)
		kid := c.node(&p.Schema)
		n.Kids = append(n.Kids, kid)
	}
	for i := range x.Args {
		kid := c.node(&x.Args[i])
		n.Kids = append(n.Kids, kid)
	}
	c.list[number] = n
	return number
}

func copied(m api.Machine) api.Machine {
	var out api.Machine
	for _, s := range m.States {
		out.States = append(out.States, api.State{Accept: s.Accept, Arcs: slices.Clone(s.Arcs)})
	}
	return out
}
