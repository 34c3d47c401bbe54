package norm

import (
	"slices"

	"datakit/api"
	"datakit/schema"
	"datakit/validate"
)

// Clauses returns alternatives of literals for the values of a kind.
func Clauses(s api.Schemas, x api.Schema, kind int) ([][]api.Literal, api.Errno) {
	if kind < api.VNull || kind > api.VMap {
		return nil, api.ErrArg
	}
	if err := schema.Check(api.Schemas{Defs: s.Defs, Root: x}); err != api.OK {
		return nil, err
	}
	b := &builder{kind: kind, defs: map[string]*api.Schema{}, counts: map[signed]int{}, known: map[signed][]clause{}, numbers: map[*api.Schema]int{}}
	for i := range s.Defs {
		b.defs[s.Defs[i].Name] = &s.Defs[i].Schema
	}
	if b.count(signed{&x, false}) > api.MaxClauses {
		return nil, api.ErrLimit
	}
	var list [][]api.Literal
	for _, c := range b.clauses(signed{&x, false}) {
		var literals []api.Literal
		for _, n := range c {
			literals = append(literals, api.Literal{Neg: n%2 == 1, Schema: copied(*b.nodes[n/2])})
		}
		list = append(list, literals)
	}
	return list, api.OK
}

// signed is a schema or its negation.
type signed struct {
	x   *api.Schema
	neg bool
}

// clause is an ascending list of literals; the number of a literal is twice that
// of its schema, plus 1 if it is a negation.
type clause []int

type builder struct {
	kind    int
	defs    map[string]*api.Schema
	counts  map[signed]int
	known   map[signed][]clause
	nodes   []*api.Schema
	numbers map[*api.Schema]int
}

// parts returns the schemas of which one is made, and whether it is the union of
// them, or else the intersection. A schema of which none is made is a literal.
func (b *builder) parts(s signed) (list []signed, union bool) {
	switch s.x.Op {
	case api.SRef:
		return []signed{{b.defs[s.x.Name], s.neg}}, true
	case api.SNot:
		return []signed{{&s.x.Args[0], !s.neg}}, true
	case api.SAll, api.SAnyOf:
		for i := range s.x.Args {
			list = append(list, signed{&s.x.Args[i], s.neg})
		}
		return list, (s.x.Op == api.SAnyOf) != s.neg
	}
	return nil, false
}

// count returns the number of clauses, or a number above the limit.
func (b *builder) count(s signed) int {
	n, ok := b.counts[s]
	if ok {
		return n
	}
	parts, union := b.parts(s)
	n = 1
	if union {
		n = 0
	}
	for _, part := range parts {
		if union {
			n += b.count(part)
		} else {
			n *= b.count(part)
		}
		n = min(n, api.MaxClauses+1)
	}
	b.counts[s] = n
	return n
}

func (b *builder) clauses(s signed) []clause {
	list, ok := b.known[s]
	if ok {
		return list
	}
	parts, union := b.parts(s)
	switch {
	case len(parts) == 0:
		list = b.literal(s)
	case union:
		for _, part := range parts {
			list = append(list, b.clauses(part)...)
		}
	default:
		list = []clause{nil}
		for _, part := range parts {
			list = products(list, b.clauses(part))
		}
	}
	list = distinct(list)
	b.known[s] = list
	return list
}

// literal returns the clauses of a literal: none if no value of the kind
// satisfies it, and one that is empty if all do so because of their kind.
func (b *builder) literal(s signed) []clause {
	if !validate.Dispatch(*s.x, b.kind) {
		if s.neg {
			return []clause{nil}
		}
		return nil
	}
	n, ok := b.numbers[s.x]
	if !ok {
		n = len(b.nodes)
		b.numbers[s.x] = n
		b.nodes = append(b.nodes, s.x)
	}
	n *= 2
	if s.neg {
		n++
	}
	return []clause{{n}}
}

func products(a, b []clause) []clause {
	var list []clause
	for _, x := range a {
		for _, y := range b {
			c := slices.Concat(x, y)
			slices.Sort(c)
			list = append(list, slices.Compact(c))
		}
	}
	return distinct(list)
}

func distinct(list []clause) []clause {
	list = slices.Clone(list)
	slices.SortFunc(list, func(a, b clause) int { return slices.Compare(a, b) })
	return slices.CompactFunc(list, func(a, b clause) bool { return slices.Equal(a, b) })
}
