package subsume

import (
	"slices"
	"strings"
	"unicode/utf8"

	"datakit/api"
	"datakit/automaton"
	"datakit/formats"
	"datakit/numset"
	"datakit/value"
)

// scalar returns a scalar of a kind for which a clause holds.
func (r *solver) scalar(c clause, kind int) (api.Value, bool) {
	for _, l := range c {
		if n := &r.nodes[l/2]; n.Op == api.SValues && l%2 == 0 {
			return r.first(c, kind, n.Vals)
		}
	}
	switch kind {
	case api.VNum:
		return r.number(c)
	case api.VText:
		return r.text(c)
	}
	return r.first(c, kind, candidates(kind, len(r.excluded(c, kind))))
}

// first returns the first of some values that is of a kind and for which a
// clause holds.
func (r *solver) first(c clause, kind int, list []api.Value) (api.Value, bool) {
	for _, v := range list {
		if v.Kind == kind && r.holds(c, v) {
			return v, true
		}
	}
	return api.Value{}, false
}

// candidates returns one more than a number of different values of a kind, as
// far as there are so many.
func candidates(kind, n int) []api.Value {
	switch kind {
	case api.VNull:
		return []api.Value{{}}
	case api.VBool:
		return []api.Value{value.Bool(false), value.Bool(true)}
	}
	var list []api.Value
	for i := range n + 1 {
		if kind == api.VTime {
			list = append(list, value.Time(api.Time{Kind: api.TimeDate, Day: i}))
		} else {
			list = append(list, value.Bytes([]byte{byte(i), byte(i >> 8)}))
		}
	}
	return list
}

// excluded returns the values of a kind that a clause names as not permitted.
func (r *solver) excluded(c clause, kind int) []api.Value {
	var list []api.Value
	for _, l := range c {
		if n := &r.nodes[l/2]; n.Op == api.SValues && l%2 == 1 {
			for _, v := range n.Vals {
				if v.Kind == kind {
					list = append(list, v)
				}
			}
		}
	}
	return list
}

// holds reports whether all literals of a clause hold for a scalar.
func (r *solver) holds(c clause, v api.Value) bool {
	for _, l := range c {
		if r.permits(l/2, v) == (l%2 == 1) {
			return false
		}
	}
	return true
}

func (r *solver) permits(number int, v api.Value) bool {
	n := &r.nodes[number]
	switch n.Op {
	case api.SNumber:
		return v.Kind == api.VNum && numset.Has(n.Set, v.Num)
	case api.SText:
		size := utf8.RuneCountInString(v.Text)
		return v.Kind == api.VText && size >= n.Min && (n.Max == -1 || size <= n.Max)
	case api.SMatch, api.SFormat:
		m, ok := r.machine(number)
		return ok && v.Kind == api.VText && automaton.Accepts(m, v.Text)
	case api.SValues:
		return slices.ContainsFunc(n.Vals, func(x api.Value) bool { return value.Equal(x, v) })
	}
	return false
}

// machine returns the automaton of a node with a pattern or a format.
func (r *solver) machine(number int) (api.Machine, bool) {
	if m, ok := r.machines[number]; ok {
		return m, len(m.States) > 0
	}
	n := &r.nodes[number]
	p, err := n.Pattern, api.OK
	if n.Op == api.SFormat {
		p, err = formats.Pattern(n.Name)
	}
	m := api.Machine{}
	if err == api.OK {
		m, err = automaton.Build(p)
	}
	if err != api.OK {
		m, r.limited = api.Machine{}, true
	}
	r.machines[number] = m
	return m, err == api.OK
}

// number returns a number for which a clause holds.
func (r *solver) number(c clause) (api.Value, bool) {
	set := numset.All()
	for _, l := range c {
		n := &r.nodes[l/2]
		part, err := n.Set, api.OK
		if n.Op == api.SValues {
			part, err = numset.Points(numbers(n.Vals)...)
		}
		if err == api.OK && l%2 == 1 {
			part, err = numset.Not(part)
		}
		if err == api.OK {
			set, err = numset.And(set, part)
		}
		if err != api.OK {
			r.limited = true
			return api.Value{}, false
		}
	}
	d, ok := numset.Pick(set)
	return value.Num(d), ok
}

func numbers(vals []api.Value) []api.Decimal {
	var list []api.Decimal
	for _, v := range vals {
		if v.Kind == api.VNum {
			list = append(list, v.Num)
		}
	}
	return list
}

// text returns a string for which a clause holds.
func (r *solver) text(c clause) (api.Value, bool) {
	lengths := []int{0, 1}
	for _, l := range c {
		n := &r.nodes[l/2]
		switch n.Op {
		case api.SMatch, api.SFormat:
			return r.matching(c)
		case api.SText:
			lengths = append(lengths, n.Min, n.Max+1)
		}
	}
	excluded := len(r.excluded(c, api.VText))
	for _, size := range lengths {
		if size < 0 || size > api.MaxText {
			continue
		}
		// Strings of one length differ in their last byte, and then in others.
		for i := range excluded + 1 {
			v := value.Text(numbered(size, i))
			if r.holds(c, v) {
				return v, true
			}
		}
	}
	return api.Value{}, false
}

// numbered returns one of the strings of some length; that with another number
// is another one, unless the length is 0.
func numbered(size, i int) string {
	const letters = "abcdefghijklmnopqrstuvwxyz"
	b := []byte(strings.Repeat("a", size))
	rest := i
	for at := size - 1; at >= 0 && rest > 0; at-- {
		b[at] = letters[rest%len(letters)]
		rest /= len(letters)
	}
	// Short strings of letters are few; others end with another character.
	if rest > 0 && size > 0 {
		return strings.Repeat("a", size-1) + string(rune(0x4E00+i))
	}
	return string(b)
}

// matching returns a string for which a clause with patterns holds.
func (r *solver) matching(c clause) (api.Value, bool) {
	all := formats.Utf()
	for _, l := range c {
		m, err := api.Machine{}, api.OK
		switch n := &r.nodes[l/2]; n.Op {
		case api.SMatch, api.SFormat:
			ok := false
			if m, ok = r.machine(l / 2); !ok {
				return api.Value{}, false
			}
		case api.SText:
			m, err = formats.Length(n.Min, n.Max)
		default:
			continue
		}
		if err == api.OK && l%2 == 1 {
			m = automaton.Not(m)
		}
		if err == api.OK {
			all, err = automaton.And(all, m)
		}
		if err != api.OK {
			r.limited = true
			return api.Value{}, false
		}
	}
	excluded := len(r.excluded(c, api.VText))
	found := automaton.Some(all, excluded+1)
	for _, s := range found {
		if v := value.Text(s); len(s) <= api.MaxText && r.holds(c, v) {
			return v, true
		}
	}
	if excluded >= api.MaxStates && len(found) == api.MaxStates {
		r.limited = true
	}
	return api.Value{}, false
}
