package regex

import (
	"slices"

	"datakit/api"
)

// Match reports whether a pattern matches a string.
func Match(p api.Pattern, s string) bool {
	if !Valid(p) {
		return false
	}
	classes, count := byteClasses(p)
	m := newMatcher(p, classes, count)
	state := m.start
	for i := range len(s) {
		state = m.step(state, classes[s[i]])
		if m.stored > maxStored {
			state = m.forget(state)
		}
	}
	return m.accept[state]
}

// byteClasses numbers the bytes so that those between which the pattern does
// not distinguish have one number, in order, and returns how many there are.
func byteClasses(p api.Pattern) (*[256]int, int) {
	var begins [257]bool
	markRanges(p, &begins)
	classes := new([256]int)
	n := 0
	for b := range classes {
		if b > 0 && begins[b] {
			n++
		}
		classes[b] = n
	}
	return classes, n + 1
}

func markRanges(p api.Pattern, begins *[257]bool) {
	if p.Op == api.RxRange {
		begins[p.Lo], begins[p.Hi+1] = true, true
	}
	for _, arg := range p.Args {
		markRanges(arg, begins)
	}
}

// matcher follows a pattern from byte to byte. Its states are lists of numbers
// that are made from the states of the matchers of the arguments; each list is
// kept once and is known by its number, and each step is taken only once, so
// that a long string costs little more than its bytes.
type matcher struct {
	op       int
	lo, hi   int // classes of bytes
	classes  int
	min, max int
	kids     []*matcher
	start    int
	numbers  map[string]int
	lists    [][]int
	stored   int
	accept   []bool
	dead     []bool
	steps    []int // of each state, for each class of bytes; 0: not known
}

// maxStored bounds the sum of the lengths of the lists that the matcher of a
// whole pattern keeps.
const maxStored = 1 << 20

// forget drops all states but one, and returns its new number.
func (m *matcher) forget(state int) int {
	list := m.lists[state]
	m.numbers = map[string]int{}
	m.steps, m.lists, m.accept, m.dead, m.stored = nil, nil, nil, nil, 0
	return m.number(list)
}

func newMatcher(p api.Pattern, classes *[256]int, count int) *matcher {
	m := &matcher{op: p.Op, lo: classes[p.Lo], hi: classes[p.Hi], classes: count, min: p.Min, max: p.Max, numbers: map[string]int{}}
	for _, arg := range p.Args {
		m.kids = append(m.kids, newMatcher(arg, classes, count))
	}
	if p.Op == api.RxRepeat && nullable(p.Args[0]) {
		m.min = 0
	}
	m.start = m.number(m.first())
	return m
}

// number returns the number of a state.
func (m *matcher) number(list []int) int {
	key := keyOf(list)
	if n, ok := m.numbers[key]; ok {
		return n
	}
	n := len(m.lists)
	m.numbers[key] = n
	m.lists = append(m.lists, list)
	m.stored += len(list)
	m.steps = append(m.steps, make([]int, m.classes)...)
	m.accept = append(m.accept, m.accepts(list))
	m.dead = append(m.dead, m.isDead(list))
	return n
}

// keyOf writes the numbers of a list with four bytes each.
func keyOf(list []int) string {
	key := make([]byte, 0, 4*len(list))
	for _, n := range list {
		key = append(key, byte(n), byte(n>>8), byte(n>>16), byte(n>>24))
	}
	return string(key)
}

func (m *matcher) step(state, class int) int {
	at := state*m.classes + class
	if next := m.steps[at]; next > 0 {
		return next - 1
	}
	next := m.number(m.after(m.lists[state], class))
	m.steps[at] = next + 1
	return next
}

// The states of a range and of the empty pattern: nothing read, matched, and
// no match any more.
const (
	stateBegin = 0
	stateMatch = 1
	stateDead  = 2
)

// first returns the state before the first byte.
func (m *matcher) first() []int {
	switch m.op {
	case api.RxNone:
		return []int{stateDead}
	case api.RxEmpty:
		return []int{stateMatch}
	case api.RxRange:
		return []int{stateBegin}
	case api.RxCat:
		return m.catFirst()
	case api.RxRepeat:
		return m.repeatFirst()
	}
	list := make([]int, len(m.kids))
	for i, kid := range m.kids {
		list[i] = kid.start
	}
	return list
}

// after returns the state after one more byte.
func (m *matcher) after(list []int, class int) []int {
	switch m.op {
	case api.RxNone, api.RxEmpty:
		return []int{stateDead}
	case api.RxRange:
		if list[0] == stateBegin && m.lo <= class && class <= m.hi {
			return []int{stateMatch}
		}
		return []int{stateDead}
	case api.RxCat:
		return m.catAfter(list, class)
	case api.RxRepeat:
		return m.repeatAfter(list, class)
	}
	next := make([]int, len(list))
	for i, kid := range m.kids {
		next[i] = kid.step(list[i], class)
	}
	return next
}

func (m *matcher) accepts(list []int) bool {
	switch m.op {
	case api.RxNone, api.RxEmpty, api.RxRange:
		return list[0] == stateMatch
	case api.RxCat:
		return m.catAccepts(list)
	case api.RxRepeat:
		return m.repeatAccepts(list)
	case api.RxNot:
		return !m.kids[0].accept[list[0]]
	}
	for i, kid := range m.kids {
		if kid.accept[list[i]] == (m.op == api.RxAlt) {
			return m.op == api.RxAlt
		}
	}
	return m.op == api.RxAnd
}

// isDead reports whether nothing is accepted from a state on, as far as that
// can be told easily. Dead states are left out of sets of states.
func (m *matcher) isDead(list []int) bool {
	switch m.op {
	case api.RxNone, api.RxEmpty, api.RxRange:
		return list[0] == stateDead
	case api.RxCat, api.RxRepeat:
		return len(list) == 0
	case api.RxNot:
		return false
	}
	for i, kid := range m.kids {
		if kid.dead[list[i]] == (m.op == api.RxAnd) {
			return m.op == api.RxAnd
		}
	}
	return m.op == api.RxAlt
}

// A state of a sequence or a repetition is a set of pairs: the number of an
// argument or of the repetitions before, and a state of the argument. A pair is
// one number, whose high bits are the state.
const pairBits = 10

func pairOf(index, state int) int { return state<<pairBits | index }

func splitPair(pair int) (int, int) { return pair & (1<<pairBits - 1), pair >> pairBits }

func (m *matcher) catFirst() []int {
	return m.catClosed([]int{pairOf(0, m.kids[0].start)})
}

func (m *matcher) catAfter(list []int, class int) []int {
	var next []int
	for _, pair := range list {
		index, state := splitPair(pair)
		next = append(next, pairOf(index, m.kids[index].step(state, class)))
	}
	return m.catClosed(next)
}

// catClosed begins each argument before which the one before it has ended. The
// list grows while it is visited.
func (m *matcher) catClosed(list []int) []int {
	begun := make([]bool, len(m.kids))
	var set []int
	for i := 0; i < len(list); i++ {
		index, state := splitPair(list[i])
		kid := m.kids[index]
		if kid.dead[state] {
			continue
		}
		set = append(set, list[i])
		if kid.accept[state] && index+1 < len(m.kids) && !begun[index+1] {
			begun[index+1] = true
			list = append(list, pairOf(index+1, m.kids[index+1].start))
		}
	}
	slices.Sort(set)
	return slices.Compact(set)
}

func (m *matcher) catAccepts(list []int) bool {
	last := len(m.kids) - 1
	for _, pair := range list {
		index, state := splitPair(pair)
		if index == last && m.kids[last].accept[state] {
			return true
		}
	}
	return false
}

// stateEnded stands for a repetition that has ended without a further one.
const stateEnded = 1<<21 - 1

func (m *matcher) repeatFirst() []int {
	return m.repeatClosed([]int{pairOf(0, stateEnded)})
}

func (m *matcher) repeatAfter(list []int, class int) []int {
	var next []int
	for _, pair := range list {
		index, state := splitPair(pair)
		if state != stateEnded {
			next = append(next, pairOf(index, m.kids[0].step(state, class)))
		}
	}
	return m.repeatClosed(next)
}

// repeatClosed ends repetitions and begins further ones. The list grows while
// it is visited.
func (m *matcher) repeatClosed(list []int) []int {
	kid := m.kids[0]
	var ended [api.MaxRepeat + 2]bool
	var set []int
	for i := 0; i < len(list); i++ {
		count, state := splitPair(list[i])
		if state == stateEnded {
			set = append(set, list[i])
			if m.max == -1 || count < m.max {
				list = append(list, pairOf(count, kid.start))
			}
			continue
		}
		if kid.dead[state] {
			continue
		}
		set = append(set, list[i])
		done := m.counted(count + 1)
		if kid.accept[state] && !ended[done] {
			ended[done] = true
			list = append(list, pairOf(done, stateEnded))
		}
	}
	return m.repeatReduced(set)
}

// counted returns the number by which a number of repetitions is represented:
// without an upper bound, more than the lower one do not matter.
func (m *matcher) counted(n int) int {
	if m.max == -1 {
		return min(n, m.min)
	}
	return n
}

// repeatReduced keeps one pair of those that differ only in a number of
// repetitions that does not matter: without a lower bound, fewer of them
// permit whatever more of them permit; without an upper bound, more of them do.
func (m *matcher) repeatReduced(set []int) []int {
	slices.Sort(set)
	set = slices.Compact(set)
	if m.min > 0 && m.max != -1 {
		return set
	}
	kept := set[:0]
	for _, pair := range set {
		same := len(kept) > 0 && kept[len(kept)-1]>>pairBits == pair>>pairBits
		switch {
		case !same:
			kept = append(kept, pair)
		case m.max == -1:
			kept[len(kept)-1] = pair
		}
	}
	return kept
}

func (m *matcher) repeatAccepts(list []int) bool {
	for _, pair := range list {
		count, state := splitPair(pair)
		if state == stateEnded && count >= m.min {
			return true
		}
	}
	return false
}
