package subsume

import (
	"slices"
	"strconv"

	"datakit/api"
)

// smaller returns the smaller one of two answers.
func smaller(a, b *answer) *answer {
	if a == nil || b != nil && b.size < a.size {
		return b
	}
	return a
}

// joined returns literals and further ones.
func joined(base []int, more ...int) []int { return sorted(slices.Concat(base, more)) }

// cover returns the smallest values, at most so many, for all of which the
// literals base hold, and for each of the others at least once.
func (r *solver) cover(base, others []int, most, depth int) ([]*answer, bool) {
	if len(others) == 0 {
		return nil, true
	}
	if most == 0 || !r.work(1) {
		return nil, false
	}
	var best []*answer
	found := false
	// The first of the others holds for a value together with some more of them.
	first, rest := others[0], others[1:]
	if len(rest) > 12 {
		r.limited = true
		return nil, false
	}
	for mask := range 1 << len(rest) {
		group, left := []int{first}, []int(nil)
		for i, l := range rest {
			if mask>>i&1 == 1 {
				group = append(group, l)
			} else {
				left = append(left, l)
			}
		}
		a := r.solve(joined(base, group...), depth)
		if a == nil {
			continue
		}
		more, ok := r.cover(base, left, most-1, depth)
		if !ok {
			continue
		}
		more = append(more, a)
		if !found || total(more) < total(best) {
			best, found = more, true
		}
	}
	return best, found
}

func total(list []*answer) int {
	n := 0
	for _, a := range list {
		n += a.size
	}
	return n
}

// lists is what is known of a list: its length, the literals of all elements,
// and those that must hold for at least one.
type lists struct {
	least, most int
	base, some  []int
}

// list returns the smallest list for which a clause holds.
func (r *solver) list(c clause, depth int) *answer {
	x := lists{most: api.MaxNodes}
	var negated []int
	for _, l := range c {
		n := &r.nodes[l/2]
		if l%2 == 1 {
			negated = append(negated, l/2)
			continue
		}
		x.least = max(x.least, n.Min)
		if n.Max != -1 {
			x.most = min(x.most, n.Max)
		}
		x.base = joined(x.base, literal(n.kids[0], false))
	}
	return r.negatedLists(x, negated, depth)
}

// negatedLists chooses how each of some nodes is violated: by too few elements,
// by too many, or by one that is not permitted.
func (r *solver) negatedLists(x lists, negated []int, depth int) *answer {
	if x.least > x.most || !r.work(1) {
		return nil
	}
	if len(negated) == 0 {
		return r.makeList(x, depth)
	}
	n, rest := &r.nodes[negated[0]], negated[1:]
	var best *answer
	if n.Min > 0 {
		y := x
		y.most = min(y.most, n.Min-1)
		best = smaller(best, r.negatedLists(y, rest, depth))
	}
	if n.Max != -1 {
		y := x
		y.least = max(y.least, n.Max+1)
		best = smaller(best, r.negatedLists(y, rest, depth))
	}
	y := x
	y.some = joined(y.some, literal(n.kids[0], true))
	return smaller(best, r.negatedLists(y, rest, depth))
}

func (r *solver) makeList(x lists, depth int) *answer {
	elements, ok := r.cover(x.base, x.some, x.most, depth-1)
	if !ok {
		return nil
	}
	if missing := x.least - len(elements); missing > 0 {
		a := r.solve(x.base, depth-1)
		if a == nil || missing*a.size >= api.MaxNodes {
			return nil
		}
		for range missing {
			elements = append(elements, a)
		}
	}
	size := 1 + total(elements)
	if size > api.MaxNodes {
		return nil
	}
	v := api.Value{Kind: api.VList}
	for _, a := range elements {
		v.List = append(v.List, a.v)
	}
	return &answer{v, size}
}

// maps is what is known of a map: for each key that is named, the literals of
// its field, if that is present; and the literals that must hold for further
// fields.
type maps struct {
	base    []int // the nodes that permit it
	present map[string][]int
	absent  map[string]bool
	other   []int
}

// with returns a copy in which a field is present and some literals hold for it.
func (x maps) with(key string, literals ...int) maps {
	present := map[string][]int{}
	for k, l := range x.present {
		present[k] = l
	}
	present[key] = joined(present[key], literals...)
	x.present = present
	return x
}

func (x maps) without(key string) maps {
	absent := map[string]bool{key: true}
	for k := range x.absent {
		absent[k] = true
	}
	x.absent = absent
	return x
}

// fields returns the smallest map for which a clause holds.
func (r *solver) fields(c clause, depth int) *answer {
	x := maps{}
	var negated []int
	named := map[string]bool{}
	for _, l := range c {
		n := &r.nodes[l/2]
		for _, key := range n.keys {
			named[key] = true
		}
		if l%2 == 1 {
			negated = append(negated, l/2)
		} else {
			x.base = append(x.base, l/2)
		}
	}
	for _, number := range x.base {
		n := &r.nodes[number]
		for i, key := range n.keys {
			if n.required[i] {
				x = x.with(key)
			}
		}
	}
	var keys []string
	for key := range named {
		keys = append(keys, key)
	}
	slices.Sort(keys)
	return r.negatedMaps(x, negated, keys, depth)
}

// negatedMaps chooses how each of some nodes is violated: by a field that is
// missing, or by one that is not permitted.
func (r *solver) negatedMaps(x maps, negated []int, keys []string, depth int) *answer {
	for key := range x.present {
		if x.absent[key] {
			return nil
		}
	}
	if !r.work(1) {
		return nil
	}
	if len(negated) == 0 {
		return r.makeMap(x, keys, depth)
	}
	n, rest := &r.nodes[negated[0]], negated[1:]
	var best *answer
	for i, key := range n.keys {
		if n.required[i] {
			best = smaller(best, r.negatedMaps(x.without(key), rest, keys, depth))
		}
	}
	for _, key := range keys {
		y := x.with(key, literal(n.field(key), true))
		best = smaller(best, r.negatedMaps(y, rest, keys, depth))
	}
	y := x
	y.other = joined(y.other, literal(n.kids[len(n.keys)], true))
	return smaller(best, r.negatedMaps(y, rest, keys, depth))
}

func (r *solver) makeMap(x maps, keys []string, depth int) *answer {
	v := api.Value{Kind: api.VMap}
	size := 1
	for _, key := range keys {
		literals, ok := x.present[key]
		if !ok {
			continue
		}
		for _, number := range x.base {
			literals = joined(literals, literal(r.nodes[number].field(key), false))
		}
		a := r.solve(literals, depth-1)
		if a == nil {
			return nil
		}
		size += a.size
		v.Fields = append(v.Fields, api.Field{Key: key, Val: a.v})
	}
	var base []int
	for _, number := range x.base {
		n := &r.nodes[number]
		base = joined(base, literal(n.kids[len(n.keys)], false))
	}
	others, ok := r.cover(base, x.other, len(x.other), depth-1)
	if !ok {
		return nil
	}
	size += total(others)
	if size > api.MaxNodes {
		return nil
	}
	for _, a := range others {
		v.Fields = append(v.Fields, api.Field{Key: freshKey(keys, len(v.Fields)), Val: a.v})
	}
	return &answer{v, size}
}

// freshKey returns a key that is not named, and another one for each number.
func freshKey(keys []string, number int) string {
	key := "k" + strconv.Itoa(number)
	for slices.Contains(keys, key) {
		key += "_"
	}
	return key
}
