// Package leaf decides what single nodes of compiled schemas permit.
package leaf

import (
	"slices"

	"datakit/api"
	"datakit/automaton"
	"datakit/numset"
	"datakit/utf"
	"datakit/value"
)

// Within reports whether a number is between Min and Max of a node.
func Within(n *api.Check, size int) bool {
	return size >= n.Min && (n.Max == -1 || size <= n.Max)
}

// Kid returns the node of the field of a map with a key.
func Kid(n *api.Check, key string) int {
	i, ok := slices.BinarySearch(n.Keys, key)
	if !ok {
		i = len(n.Keys)
	}
	return n.Kids[i]
}

// Permits reports whether a node without kids permits a value.
func Permits(n *api.Check, v *api.Value) bool {
	switch n.Op {
	case api.SAny:
		return true
	case api.SKinds:
		return n.Mask>>v.Kind&1 == 1
	case api.SNumber:
		return v.Kind == api.VNum && numset.Has(n.Set, v.Num)
	case api.SText:
		if v.Kind != api.VText {
			return false
		}
		size, _ := utf.Len(v.Text)
		return Within(n, size)
	case api.SMatch:
		return v.Kind == api.VText && automaton.Accepts(n.Machine, v.Text)
	case api.SValues:
		return slices.ContainsFunc(n.Vals, func(x api.Value) bool { return value.Equal(*v, x) })
	}
	return false
}
