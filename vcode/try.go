package vcode

import (
	"slices"
	"strings"

	"datakit/api"
	"datakit/leaf"
)

// trial tries nodes on parts of a value. It remembers what came of it, since a
// node may be tried on one part in many ways.
type trial struct {
	nodes []api.Check
	known map[*api.Value]map[int]result
}

type result struct {
	ok    bool
	steps int
}

func newTrial(nodes []api.Check) *trial {
	return &trial{nodes, map[*api.Value]map[int]result{}}
}

// try tries a node on a value and counts the steps, up to MaxFuel.
func (t *trial) try(node int, v *api.Value) (bool, int) {
	known := t.known[v]
	if known == nil {
		known = map[int]result{}
		t.known[v] = known
	}
	r, ok := known[node]
	if !ok {
		r.ok, r.steps = t.tryNew(&t.nodes[node], v)
		known[node] = r
	}
	return r.ok, r.steps
}

func (t *trial) tryNew(n *api.Check, v *api.Value) (bool, int) {
	switch n.Op {
	case api.SList:
		if v.Kind != api.VList || !leaf.Within(n, len(v.List)) {
			return false, 1
		}
		return t.all(len(v.List), func(i int) (int, *api.Value) { return n.Kids[0], &v.List[i] })
	case api.SMap:
		fields, ok := fieldsOf(n, v)
		if !ok {
			return false, 1
		}
		return t.all(len(fields), func(i int) (int, *api.Value) { return leaf.Kid(n, fields[i].Key), &fields[i].Val })
	case api.SAll:
		return t.all(len(n.Kids), func(i int) (int, *api.Value) { return n.Kids[i], v })
	case api.SAnyOf:
		steps := 1
		for _, k := range n.Kids {
			ok, more := t.try(k, v)
			steps = min(steps+more, api.MaxFuel)
			if ok {
				return true, steps
			}
		}
		return false, steps
	case api.SNot:
		ok, steps := t.try(n.Kids[0], v)
		return !ok, min(steps+1, api.MaxFuel)
	}
	return leaf.Permits(n, v), 1
}

// all tries nodes on values until one is not permitted.
func (t *trial) all(count int, pair func(i int) (int, *api.Value)) (bool, int) {
	steps := 1
	for i := range count {
		ok, more := t.try(pair(i))
		steps = min(steps+more, api.MaxFuel)
		if !ok {
			return false, steps
		}
	}
	return true, steps
}

// fieldsOf returns the fields of a value in the order of their keys, and whether
// it is a map that has all required ones.
func fieldsOf(n *api.Check, v *api.Value) ([]*api.Field, bool) {
	if v.Kind != api.VMap {
		return nil, false
	}
	fields := make([]*api.Field, len(v.Fields))
	for i := range fields {
		fields[i] = &v.Fields[i]
	}
	slices.SortFunc(fields, func(a, b *api.Field) int { return strings.Compare(a.Key, b.Key) })
	for i, key := range n.Keys {
		_, ok := slices.BinarySearchFunc(fields, key, func(f *api.Field, key string) int { return strings.Compare(f.Key, key) })
		if n.Required[i] && !ok {
			return nil, false
		}
	}
	return fields, true
}
