package subsume

import (
	"slices"

	"datakit/api"
)

// clause is an ascending list of literals of nodes that are no combinations.
type clause = []int

// all returns the clauses of a conjunction of literals for the values of a kind.
func (r *solver) all(literals []int, kind int) []clause {
	list := []clause{nil}
	for _, l := range literals {
		list = r.product(list, r.choices(l, kind))
	}
	return list
}

// choices returns the clauses of a literal for the values of a kind.
func (r *solver) choices(l, kind int) []clause {
	at := choice{l, kind}
	if list, ok := r.clauses[at]; ok {
		return list
	}
	list := r.newChoices(l, kind)
	r.clauses[at] = list
	return list
}

func (r *solver) newChoices(l, kind int) []clause {
	n, neg := &r.nodes[l/2], l%2 == 1
	switch n.Op {
	case api.SNot:
		return r.choices(literal(n.kids[0], !neg), kind)
	case api.SAll, api.SAnyOf:
		if (n.Op == api.SAnyOf) != neg {
			var list []clause
			for _, k := range n.kids {
				list = append(list, r.choices(literal(k, neg), kind)...)
			}
			return r.reduced(list)
		}
		list := []clause{nil}
		for _, k := range n.kids {
			list = r.product(list, r.choices(literal(k, neg), kind))
		}
		return list
	case api.SAny, api.SKinds:
		if (n.Op == api.SAny || n.Mask>>kind&1 == 1) != neg {
			return []clause{nil}
		}
		return nil
	}
	if concerns(n.Schema, kind) {
		return []clause{{l}}
	}
	if neg {
		return []clause{nil}
	}
	return nil
}

// concerns reports whether a schema that is no combination can permit values of
// a kind.
func concerns(x *api.Schema, kind int) bool {
	switch x.Op {
	case api.SNumber:
		return kind == api.VNum
	case api.SText, api.SMatch, api.SFormat:
		return kind == api.VText
	case api.SValues:
		return slices.ContainsFunc(x.Vals, func(v api.Value) bool { return v.Kind == kind })
	case api.SList:
		return kind == api.VList
	case api.SMap:
		return kind == api.VMap
	}
	return false
}

func (r *solver) product(a, b []clause) []clause {
	var list []clause
	for _, x := range a {
		for _, y := range b {
			if !r.work(1) {
				return nil
			}
			c := sorted(slices.Concat(x, y))
			if !contradictory(c) {
				list = append(list, c)
			}
		}
		// Short lists are kept short while they are made.
		if len(list) > maxClauses {
			list = r.reduced(list)
		}
	}
	return r.reduced(list)
}

// contradictory reports whether a clause has a literal and its negation.
func contradictory(c clause) bool {
	for i := 1; i < len(c); i++ {
		if c[i]/2 == c[i-1]/2 {
			return true
		}
	}
	return false
}

// reduced returns clauses without those that say more than another one.
func (r *solver) reduced(list []clause) []clause {
	slices.SortFunc(list, func(a, b clause) int {
		if len(a) != len(b) {
			return len(a) - len(b)
		}
		return slices.Compare(a, b)
	})
	list = slices.CompactFunc(list, func(a, b clause) bool { return slices.Equal(a, b) })
	var kept []clause
	for _, c := range list {
		if !r.work(len(kept) / 16) {
			return nil
		}
		if !slices.ContainsFunc(kept, func(k clause) bool { return within(k, c) }) {
			kept = append(kept, c)
		}
	}
	if len(kept) > maxClauses {
		r.limited = true
		return kept[:maxClauses]
	}
	return kept
}

// within reports whether all literals of a clause are in another one.
func within(a, b clause) bool {
	i := 0
	for _, l := range b {
		if i < len(a) && a[i] == l {
			i++
		}
	}
	return i == len(a)
}
