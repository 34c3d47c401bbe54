package automaton

import (
	"datakit/api"
	"datakit/regex"
)

// setWords is the number of words of a set of states.
const setWords = api.MaxStates / 64

// stateSet is a set of states of an automaton.
type stateSet [setWords]uint64

func (s *stateSet) add(state int) { s[state/64] |= 1 << (state % 64) }

// Build returns the automaton of a pattern.
func Build(p api.Pattern) (api.Machine, api.Errno) {
	if !regex.Valid(p) {
		return api.Machine{}, api.ErrArg
	}
	var begins [256]bool
	markBegins(p, &begins)
	letters := classes(&begins)
	b := &builder{letters: letters}
	t, ok := b.build(p)
	if !ok {
		return api.Machine{}, api.ErrLimit
	}
	return machineOf(t, letters), api.OK
}

func markBegins(p api.Pattern, begins *[256]bool) {
	if p.Op == api.RxRange {
		begins[p.Lo] = true
		if p.Hi < 255 {
			begins[p.Hi+1] = true
		}
	}
	for _, arg := range p.Args {
		markBegins(arg, begins)
	}
}

// builder builds automata over one alphabet. Its functions report whether no
// step reached too many states.
type builder struct{ letters alphabet }

func (b *builder) build(p api.Pattern) (*table, bool) {
	switch p.Op {
	case api.RxNot:
		t, ok := b.build(p.Args[0])
		if !ok {
			return nil, false
		}
		for i := range t.accept {
			t.accept[i] = !t.accept[i]
		}
		return t, true
	case api.RxCat:
		return b.fold(p.Args, follow)
	case api.RxAlt:
		return b.fold(p.Args, either)
	case api.RxAnd:
		return b.fold(p.Args, both)
	case api.RxRepeat:
		return b.repeat(p)
	}
	return b.simple(p), true
}

// simple returns the automaton of a pattern without arguments.
func (b *builder) simple(p api.Pattern) *table {
	const start, match, dead = 0, 1, 2
	t := &table{letters: len(b.letters), accept: []bool{p.Op == api.RxEmpty, true, false}}
	for _, letter := range b.letters {
		next := dead
		if p.Op == api.RxRange && p.Lo <= letter && letter <= p.Hi {
			next = match
		}
		t.next = append(t.next, next)
	}
	for range 2 * len(b.letters) {
		t.next = append(t.next, dead)
	}
	return least(t)
}

func (b *builder) fold(args []api.Pattern, step func(x, y *table) (*table, bool)) (*table, bool) {
	all, ok := b.build(args[0])
	if !ok {
		return nil, false
	}
	for _, arg := range args[1:] {
		t, ok := b.build(arg)
		if !ok {
			return nil, false
		}
		if all, ok = step(all, t); !ok {
			return nil, false
		}
	}
	return all, true
}

func (b *builder) repeat(p api.Pattern) (*table, bool) {
	arg, ok := b.build(p.Args[0])
	if !ok {
		return nil, false
	}
	empty := b.simple(api.Pattern{Op: api.RxEmpty})
	all, ok := followTimes(empty, arg, p.Min)
	if !ok || p.Max == p.Min {
		return all, ok
	}
	if p.Max == -1 {
		more, ok := repeated(arg)
		if !ok {
			return nil, false
		}
		return follow(all, more)
	}
	option, ok := either(arg, empty)
	if !ok {
		return nil, false
	}
	return followTimes(all, option, p.Max-p.Min)
}

func followTimes(all, arg *table, n int) (*table, bool) {
	ok := true
	for range n {
		if all, ok = follow(all, arg); !ok {
			return nil, false
		}
	}
	return all, true
}

func either(a, b *table) (*table, bool) {
	return leastPairs(a, b, func(x, y bool) bool { return x || y })
}

func both(a, b *table) (*table, bool) {
	return leastPairs(a, b, func(x, y bool) bool { return x && y })
}

func leastPairs(a, b *table, accept func(x, y bool) bool) (*table, bool) {
	t, ok := pairs(a, b, accept)
	if !ok {
		return nil, false
	}
	return least(t), true
}

// pairs returns the automaton of the pairs of two automata, and false if there
// are too many.
func pairs(a, b *table, accept func(x, y bool) bool) (*table, bool) {
	numbers := map[[2]int]int{{0, 0}: 0}
	met := [][2]int{{0, 0}}
	t := &table{letters: a.letters}
search:
	for i := 0; i < len(met); i++ {
		x, y := met[i][0], met[i][1]
		t.accept = append(t.accept, accept(a.accept[x], b.accept[y]))
		right := b.row(y)
		for letter, left := range a.row(x) {
			pair := [2]int{left, right[letter]}
			n, ok := numbers[pair]
			if !ok {
				n = len(met)
				numbers[pair] = n
				met = append(met, pair)
			}
			if len(met) > api.MaxStates {
				break search
			}
			t.next = append(t.next, n)
		}
	}
	return t, len(met) <= api.MaxStates
}

// setStep returns the states after one more letter, and whether one accepts.
func setStep(t *table, set *stateSet, letter int) (stateSet, bool) {
	var next stateSet
	accept := false
	for i, word := range set {
		for bit := 0; word != 0; bit++ {
			if word&1 != 0 {
				state := t.next[(i*64+bit)*t.letters+letter]
				next.add(state)
				accept = accept || t.accept[state]
			}
			word >>= 1
		}
	}
	return next, accept
}

// mix is a state of an automaton that is followed by another one, with the set
// of the states of that one.
type mix struct {
	first int
	rest  stateSet
}

// follow returns the automaton of what a accepts followed by what b accepts.
func follow(a, b *table) (*table, bool) {
	start := mix{}
	if a.accept[0] {
		start.rest.add(0)
	}
	numbers := map[mix]int{start: 0}
	met := []mix{start}
	t := &table{letters: a.letters, accept: []bool{a.accept[0] && b.accept[0]}}
	for i := 0; i < len(met); i++ {
		now := met[i]
		for letter, first := range a.row(now.first) {
			rest, accept := setStep(b, &now.rest, letter)
			if a.accept[first] {
				rest.add(0)
				accept = accept || b.accept[0]
			}
			next := mix{first, rest}
			n, ok := numbers[next]
			if !ok {
				n = len(met)
				numbers[next] = n
				met = append(met, next)
				t.accept = append(t.accept, accept)
			}
			if len(met) > api.MaxStates {
				return nil, false
			}
			t.next = append(t.next, n)
		}
	}
	return least(t), true
}

// repeated returns the automaton of any number of strings that a accepts. Its
// state 0 is that of the empty string; the sets have the states from 1 on.
func repeated(a *table) (*table, bool) {
	var start stateSet
	start.add(0)
	numbers := map[stateSet]int{}
	met := []stateSet{start}
	t := &table{letters: a.letters, accept: []bool{true}}
	for i := 0; i < len(met); i++ {
		now := met[i]
		for letter := range a.letters {
			next, accept := setStep(a, &now, letter)
			if accept {
				next.add(0)
			}
			n, ok := numbers[next]
			if !ok {
				n = len(met)
				numbers[next] = n
				met = append(met, next)
				t.accept = append(t.accept, accept)
			}
			if len(met) > api.MaxStates {
				return nil, false
			}
			t.next = append(t.next, n)
		}
	}
	return least(t), true
}
