package automaton

import (
	"slices"

	"datakit/api"
)

// Empty reports whether no string is accepted.
func Empty(m api.Machine) bool {
	_, ok := Shortest(m)
	return !ok
}

// visit is a state that was reached, and how.
type visit struct {
	state, from int
	b           byte
}

// Shortest returns the first of the shortest strings that are accepted. States
// are reached in the order of the first strings that lead to them.
func Shortest(m api.Machine) (string, bool) {
	if !Valid(m) {
		return "", false
	}
	seen := make([]bool, len(m.States))
	seen[0] = true
	visits := []visit{{from: -1}}
	for i := 0; i < len(visits); i++ {
		state := m.States[visits[i].state]
		if state.Accept {
			return wayTo(visits, i), true
		}
		for _, arc := range state.Arcs {
			if !seen[arc.Next] {
				seen[arc.Next] = true
				visits = append(visits, visit{arc.Next, i, byte(arc.Lo)})
			}
		}
	}
	return "", false
}

func wayTo(visits []visit, i int) string {
	var way []byte
	for ; visits[i].from >= 0; i = visits[i].from {
		way = append(way, visits[i].b)
	}
	slices.Reverse(way)
	return string(way)
}

// Some returns the first n strings that are accepted, the shortest first. If no
// string has one of as many successive lengths as there are states, no longer
// one is accepted: a string that visits a state twice has a shorter one.
func Some(m api.Machine, n int) []string {
	n = min(max(n, 0), api.MaxStates)
	if n == 0 || !Valid(m) {
		return nil
	}
	f := &finder{states: m.States, limit: n}
	f.ends = [][]bool{acceptance(m)}
	without := 0
	for length := 0; len(f.found) < n && without <= len(m.States); length++ {
		if length > 0 {
			f.ends = append(f.ends, f.longer(f.ends[length-1]))
		}
		without++
		if f.ends[length][0] {
			without = 0
			f.collect(length)
		}
	}
	return f.found
}

func acceptance(m api.Machine) []bool {
	list := make([]bool, len(m.States))
	for i, state := range m.States {
		list[i] = state.Accept
	}
	return list
}

// finder finds strings. For each length, ends has the states from which a
// string of that length is accepted.
type finder struct {
	states []api.State
	ends   [][]bool
	found  []string
	limit  int
}

func (f *finder) longer(shorter []bool) []bool {
	list := make([]bool, len(f.states))
	for i, state := range f.states {
		list[i] = slices.ContainsFunc(state.Arcs, func(arc api.Arc) bool { return shorter[arc.Next] })
	}
	return list
}

// collect finds the strings of a length. The bytes of the string and the states
// before them are kept in lists, since a string may be long.
func (f *finder) collect(length int) {
	text := make([]byte, length)
	states := make([]int, length+1)
	at, from := 0, 0 // the place of the next byte, and the least one that is tried
	for len(f.found) < f.limit {
		b, next := -1, 0
		if at < length {
			b, next = f.firstByte(states[at], from, length-at-1)
		}
		switch {
		case b >= 0:
			text[at] = byte(b)
			at, from = at+1, 0
			states[at] = next
			continue
		case at == length:
			f.found = append(f.found, string(text))
		}
		if at == 0 {
			return
		}
		at--
		from = int(text[at]) + 1
	}
}

// firstByte returns the first byte, not below from, after which a string of the
// length that is left is accepted, and the state after it; or -1.
func (f *finder) firstByte(state, from, left int) (int, int) {
	for _, arc := range f.states[state].Arcs {
		if arc.Hi >= from && f.ends[left][arc.Next] {
			return max(arc.Lo, from), arc.Next
		}
	}
	return -1, 0
}
