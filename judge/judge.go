// Package judge decides which values the nodes of schemas permit. It remembers
// what it has decided, so that schemas that refer to others in many ways cost
// no more than their nodes on each part of a value.
package judge

import (
	"slices"
	"strings"

	"datakit/api"
	"datakit/formats"
	"datakit/numset"
	"datakit/regex"
	"datakit/utf"
	"datakit/value"
)

// Node is a node of a schema. Kids are the nodes of its Args, or, of a map, those
// of its Props in ascending order of their keys, and then that of other fields.
// A reference is replaced by what it refers to.
type Node struct {
	*api.Schema
	Keys     []string
	Required []bool
	Kids     []*Node
	number   int
}

// Graph has the nodes of valid schemas.
type Graph struct {
	defs  map[string]*Node
	count int
}

// New returns the nodes of the definitions.
func New(defs []api.Def) *Graph {
	g := &Graph{defs: map[string]*Node{}}
	for _, d := range defs {
		g.defs[d.Name] = &Node{}
	}
	for i := range defs {
		*g.defs[defs[i].Name] = *g.Add(&defs[i].Schema)
	}
	return g
}

// Add returns the node of a schema that uses the definitions.
func (g *Graph) Add(x *api.Schema) *Node {
	g.count++
	n := &Node{Schema: x, number: g.count}
	if x.Op == api.SRef {
		n.Kids = []*Node{g.defs[x.Name]}
		return n
	}
	props := make([]*api.Prop, len(x.Props))
	for i := range props {
		props[i] = &x.Props[i]
	}
	slices.SortFunc(props, func(a, b *api.Prop) int { return strings.Compare(a.Key, b.Key) })
	for _, p := range props {
		n.Keys = append(n.Keys, p.Key)
		n.Required = append(n.Required, p.Required)
		n.Kids = append(n.Kids, g.Add(&p.Schema))
	}
	for i := range x.Args {
		n.Kids = append(n.Kids, g.Add(&x.Args[i]))
	}
	return n
}

// Number tells the nodes of a graph apart.
func (n *Node) Number() int { return n.number }

// Field returns the node of the field of a map with a key.
func (n *Node) Field(key string) *Node {
	i, ok := slices.BinarySearch(n.Keys, key)
	if !ok {
		i = len(n.Keys)
	}
	return n.Kids[i]
}

// Subject is a part of a value about which something is decided. Parts are those
// of its elements, or of its fields in ascending order of their keys.
type Subject struct {
	Val     *api.Value
	Keys    []string
	Parts   []*Subject
	decided map[int]bool
}

// About returns the subject of a valid value.
func About(v *api.Value) *Subject {
	x := &Subject{Val: v, decided: map[int]bool{}}
	for i := range v.List {
		x.Parts = append(x.Parts, About(&v.List[i]))
	}
	fields := make([]*api.Field, len(v.Fields))
	for i := range fields {
		fields[i] = &v.Fields[i]
	}
	slices.SortFunc(fields, func(a, b *api.Field) int { return strings.Compare(a.Key, b.Key) })
	for _, f := range fields {
		x.Keys = append(x.Keys, f.Key)
		x.Parts = append(x.Parts, About(&f.Val))
	}
	return x
}

// Has reports whether a subject is a map with a key.
func (x *Subject) Has(key string) bool {
	_, ok := slices.BinarySearch(x.Keys, key)
	return ok
}

// Permits reports whether a node permits a subject.
func (n *Node) Permits(x *Subject) bool {
	ok, known := x.decided[n.number]
	if !known {
		ok = n.permits(x)
		x.decided[n.number] = ok
	}
	return ok
}

func (n *Node) permits(x *Subject) bool {
	v := x.Val
	switch n.Op {
	case api.SAny:
		return true
	case api.SKinds:
		return n.Mask>>v.Kind&1 == 1
	case api.SNumber:
		return v.Kind == api.VNum && numset.Has(n.Set, v.Num)
	case api.SText, api.SMatch, api.SFormat:
		return v.Kind == api.VText && n.permitsText(v.Text)
	case api.SValues:
		return slices.ContainsFunc(n.Vals, func(y api.Value) bool { return value.Equal(*v, y) })
	case api.SList:
		return v.Kind == api.VList && n.Within(len(v.List)) && n.permitsAll(x.Parts)
	case api.SMap:
		return v.Kind == api.VMap && n.permitsMap(x)
	case api.SAll:
		return !slices.ContainsFunc(n.Kids, func(k *Node) bool { return !k.Permits(x) })
	case api.SAnyOf:
		return slices.ContainsFunc(n.Kids, func(k *Node) bool { return k.Permits(x) })
	case api.SNot:
		return !n.Kids[0].Permits(x)
	case api.SRef:
		return n.Kids[0].Permits(x)
	}
	return false
}

// Within reports whether a number is between Min and Max.
func (n *Node) Within(size int) bool {
	return size >= n.Min && (n.Max == -1 || size <= n.Max)
}

func (n *Node) permitsText(s string) bool {
	switch n.Op {
	case api.SText:
		size, err := utf.Len(s)
		return err == api.OK && n.Within(size)
	case api.SMatch:
		return regex.Match(n.Pattern, s)
	}
	return formats.Check(n.Name, s)
}

func (n *Node) permitsAll(parts []*Subject) bool {
	for _, x := range parts {
		if !n.Kids[0].Permits(x) {
			return false
		}
	}
	return true
}

func (n *Node) permitsMap(x *Subject) bool {
	for i, key := range n.Keys {
		if n.Required[i] && !x.Has(key) {
			return false
		}
	}
	for i, key := range x.Keys {
		if !n.Field(key).Permits(x.Parts[i]) {
			return false
		}
	}
	return true
}
