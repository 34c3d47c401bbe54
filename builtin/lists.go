package builtin

import (
	"slices"
	"strings"

	"datakit/api"
	"datakit/decimal"
	"datakit/value"
)

// sortedBy returns the elements of a list in ascending order; equal ones keep
// their order.
func sortedBy[T any](l []T, cmp func(a, b T) int) []T {
	sorted := slices.Clone(l)
	slices.SortStableFunc(sorted, func(a, b T) int { return cmp(a, b) })
	return sorted
}

func contains(l []api.Value, is func(api.Value) bool) bool { return slices.ContainsFunc(l, is) }

// finder returns a function that reports whether an element equal to a value is
// in a list.
func finder(l []api.Value) func(api.Value) bool {
	sorted := sortedBy(l, value.Cmp)
	return func(v api.Value) bool {
		_, ok := slices.BinarySearchFunc(sorted, v, value.Cmp)
		return ok
	}
}

func unique(l []api.Value) []api.Value {
	return slices.CompactFunc(sortedBy(l, value.Cmp), func(a, b api.Value) bool { return value.Cmp(a, b) == 0 })
}

func flatten(out, l []api.Value) []api.Value {
	for _, v := range l {
		if v.Kind == api.VList {
			out = flatten(out, v.List)
		} else {
			out = append(out, v)
		}
	}
	return out
}

// extreme returns the element that takes the place of each one before it with
// which it compares in some way.
func extreme(l []api.Value, takes func(c int) bool) (api.Value, api.Errno) {
	if len(l) == 0 {
		return api.Value{}, api.OK
	}
	best := l[0]
	for _, v := range l[1:] {
		if takes(value.Cmp(v, best)) {
			best = v
		}
	}
	return result(best)
}

func reverseList(l []api.Value) (api.Value, api.Errno) {
	reversed := slices.Clone(l)
	slices.Reverse(reversed)
	return list(reversed)
}

func keys(v api.Value) (api.Value, api.Errno) {
	var names []string
	for _, f := range v.Fields {
		names = append(names, f.Key)
	}
	var out []api.Value
	for _, name := range sortedBy(names, strings.Compare) {
		out = append(out, value.Text(name))
	}
	return list(out)
}

func indices(n int) (api.Value, api.Errno) {
	var out []api.Value
	for i := range n {
		out = append(out, value.Int(i))
	}
	return list(out)
}

func fieldValues(v api.Value) []api.Value {
	var out []api.Value
	for _, f := range v.Fields {
		out = append(out, f.Val)
	}
	return out
}

func toEntries(v api.Value) (api.Value, api.Errno) {
	var out []api.Value
	for _, f := range v.Fields {
		fields := []api.Field{{Key: "key", Val: value.Text(f.Key)}, {Key: "value", Val: f.Val}}
		out = append(out, api.Value{Kind: api.VMap, Fields: fields})
	}
	return list(out)
}

func fromEntries(l []api.Value) (api.Value, api.Errno) {
	out := api.Value{Kind: api.VMap}
	places := map[string]int{}
	for _, entry := range l {
		key, ok := value.Field(entry, "key")
		if entry.Kind != api.VMap || !ok || key.Kind != api.VText {
			return api.Value{}, api.ErrKind
		}
		v, _ := value.Field(entry, "value")
		at, ok := places[key.Text]
		if !ok {
			at = len(out.Fields)
			places[key.Text] = at
			out.Fields = append(out.Fields, api.Field{Key: key.Text})
		}
		out.Fields[at].Val = v
	}
	return result(out)
}

func group(l []api.Value) (api.Value, api.Errno) {
	for _, pair := range l {
		if pair.Kind != api.VList || len(pair.List) != 2 {
			return api.Value{}, api.ErrKind
		}
	}
	byKey := func(a, b api.Value) int { return value.Cmp(a.List[0], b.List[0]) }
	sorted := sortedBy(l, byKey)
	var out []api.Value
	for i, pair := range sorted {
		if i == 0 || byKey(sorted[i-1], pair) != 0 {
			out = append(out, api.Value{Kind: api.VList})
		}
		last := &out[len(out)-1]
		last.List = append(last.List, pair.List[1])
	}
	return list(out)
}

// rangeOf returns the numbers from a on that are below b.
func rangeOf(a, b api.Value) (api.Value, api.Errno) {
	if a.Kind != api.VNum || b.Kind != api.VNum {
		return api.Value{}, api.ErrKind
	}
	one := decimal.FromInt(1)
	out := api.Value{Kind: api.VList}
	for x := a.Num; decimal.Cmp(x, b.Num) < 0; {
		if len(out.List)+1 == api.MaxNodes {
			return api.Value{}, api.ErrSize
		}
		out.List = append(out.List, value.Num(x))
		next, err := decimal.Add(x, one)
		if err != api.OK {
			return api.Value{}, err
		}
		x = next
	}
	return out, api.OK
}

// sum adds the elements of a list. It adds in place, since a long list of short
// ones would be copied again and again otherwise.
func sum(l []api.Value) (api.Value, api.Errno) {
	all := &adder{}
	for _, v := range l {
		if err := all.add(v); err != api.OK {
			return api.Value{}, err
		}
	}
	switch all.v.Kind {
	case api.VText:
		return result(value.Text(all.text.String()))
	case api.VList:
		return joined(all.lists), api.OK
	}
	return result(all.v)
}

// joined returns the list of the elements of some lists.
func joined(lists [][]api.Value) api.Value {
	n := 0
	for _, l := range lists {
		n += len(l)
	}
	out := make([]api.Value, 0, n)
	for _, l := range lists {
		for _, v := range l {
			out = append(out, value.Copy(v))
		}
	}
	return api.Value{Kind: api.VList, List: out}
}

// adder has the sum of some values. That of lists is joined at the end; it is
// valid if it is not too large, since it is not nested deeper than they are.
type adder struct {
	v      api.Value
	text   strings.Builder
	lists  [][]api.Value
	nodes  int            // of a list or a map
	places map[string]int // of the keys of a map
}

func (a *adder) add(v api.Value) api.Errno {
	switch {
	case v.Kind == api.VNull:
	case a.v.Kind == api.VNull:
		return a.begin(v)
	case a.v.Kind != v.Kind:
		return api.ErrKind
	case v.Kind == api.VNum:
		sum, err := decimal.Add(a.v.Num, v.Num)
		a.v.Num = sum
		return err
	case v.Kind == api.VText:
		a.text.WriteString(v.Text)
		if a.text.Len() > api.MaxText {
			return api.ErrSize
		}
	case v.Kind == api.VList:
		a.lists = append(a.lists, v.List)
		return a.grow(value.Size(v) - 1)
	case v.Kind == api.VMap:
		return a.merge(v)
	default:
		return api.ErrKind
	}
	return api.OK
}

// begin takes the first value that is not null.
func (a *adder) begin(v api.Value) api.Errno {
	a.v = v
	switch v.Kind {
	case api.VText:
		a.text.WriteString(v.Text)
	case api.VList:
		a.lists = [][]api.Value{v.List}
		return a.grow(value.Size(v))
	case api.VMap:
		a.v.Fields = nil
		a.places = map[string]int{}
		a.nodes = 1
		return a.merge(v)
	}
	return api.OK
}

func (a *adder) grow(n int) api.Errno {
	a.nodes += n
	if a.nodes > api.MaxNodes {
		return api.ErrSize
	}
	return api.OK
}

func (a *adder) merge(v api.Value) api.Errno {
	n := 0
	for _, f := range v.Fields {
		n += value.Size(f.Val)
		if at, ok := a.places[f.Key]; ok {
			n -= value.Size(a.v.Fields[at].Val)
			a.v.Fields[at].Val = f.Val
			continue
		}
		a.places[f.Key] = len(a.v.Fields)
		a.v.Fields = append(a.v.Fields, f)
	}
	return a.grow(n)
}
