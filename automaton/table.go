package automaton

import (
	"slices"

	"datakit/api"
)

// An alphabet has the first byte of each class of bytes between which some
// automata do not distinguish, in order.
type alphabet []int

// alphabetOf returns the classes of the bytes of some valid automata.
func alphabetOf(machines ...api.Machine) alphabet {
	var begins [256]bool
	for _, m := range machines {
		for _, state := range m.States {
			for _, arc := range state.Arcs {
				begins[arc.Lo] = true
			}
		}
	}
	return classes(&begins)
}

func classes(begins *[256]bool) alphabet {
	var letters alphabet
	for b, begin := range begins {
		if b == 0 || begin {
			letters = append(letters, b)
		}
	}
	return letters
}

// table is an automaton whose steps are looked up by the number of a class.
type table struct {
	letters int
	accept  []bool
	next    []int // of the states one after the other
}

func (t *table) row(state int) []int {
	return t.next[state*t.letters : (state+1)*t.letters]
}

func (t *table) size() int { return len(t.accept) }

func tableOf(m api.Machine, letters alphabet) *table {
	t := &table{letters: len(letters)}
	for _, state := range m.States {
		t.accept = append(t.accept, state.Accept)
		arc := 0
		for _, b := range letters {
			for state.Arcs[arc].Hi < b {
				arc++
			}
			t.next = append(t.next, state.Arcs[arc].Next)
		}
	}
	return t
}

func machineOf(t *table, letters alphabet) api.Machine {
	states := make([]api.State, t.size())
	for i := range states {
		states[i] = api.State{Accept: t.accept[i], Arcs: arcsOf(t.row(i), letters)}
	}
	return api.Machine{States: states}
}

func arcsOf(row []int, letters alphabet) []api.Arc {
	var arcs []api.Arc
	for i, next := range row {
		hi := 255
		if i+1 < len(letters) {
			hi = letters[i+1] - 1
		}
		if n := len(arcs); n > 0 && arcs[n-1].Next == next {
			arcs[n-1].Hi = hi
			continue
		}
		arcs = append(arcs, api.Arc{Lo: letters[i], Hi: hi, Next: next})
	}
	return arcs
}

// least returns the least automaton of an automaton: its states are numbered as
// they are met, and two states are one if nothing distinguishes them.
func least(t *table) *table {
	reached := renumbered(t, identity(t.size()))
	return renumbered(reached, blocks(reached))
}

func identity(n int) []int {
	list := make([]int, n)
	for i := range list {
		list[i] = i
	}
	return list
}

// renumbered makes one state of all states with the same class, and numbers the
// states in the order in which they are met.
func renumbered(t *table, class []int) *table {
	numbers := make([]int, t.size())
	for i := range numbers {
		numbers[i] = -1
	}
	out := &table{letters: t.letters}
	var met []int
	number := func(state int) int {
		c := class[state]
		if numbers[c] < 0 {
			numbers[c] = len(met)
			met = append(met, state)
		}
		return numbers[c]
	}
	number(0)
	for i := 0; i < len(met); i++ {
		out.accept = append(out.accept, t.accept[met[i]])
		for _, next := range t.row(met[i]) {
			n := number(next)
			out.next = append(out.next, n)
		}
	}
	return out
}

// partition is a division of states into blocks; the states of a block stand
// side by side in order.
type partition struct {
	order []int // states
	place []int // of each state in order
	block []int // of each state
	from  []int // of each block in order
	to    []int
}

// blocks divides states into those that nothing distinguishes, by Hopcroft's
// method: a block is divided by what leads into another one, and of the two
// halves only the smaller one has to divide others again.
func blocks(t *table) []int {
	p := newPartition(t)
	back := backwards(t)
	work := identity(len(p.from))
	queued := make([]bool, t.size()+1)
	for _, b := range work {
		queued[b] = true
	}
	marked := make([]int, t.size()+1) // how many states of a block stand before the others
	for len(work) > 0 {
		splitter := work[len(work)-1]
		work = work[:len(work)-1]
		queued[splitter] = false
		members := slices.Clone(p.order[p.from[splitter]:p.to[splitter]])
		for letter := range t.letters {
			for _, b := range p.mark(members, back[letter], marked) {
				added := p.split(b, marked)
				if added < 0 {
					continue
				}
				if !queued[b] && p.length(b) < p.length(added) {
					added = b
				}
				queued[added] = true
				work = append(work, added)
			}
		}
	}
	return p.block
}

func newPartition(t *table) *partition {
	p := &partition{place: make([]int, t.size()), block: make([]int, t.size())}
	for _, accept := range []bool{false, true} {
		from := len(p.order)
		for state, a := range t.accept {
			if a == accept {
				p.place[state] = len(p.order)
				p.block[state] = len(p.from)
				p.order = append(p.order, state)
			}
		}
		if len(p.order) > from {
			p.from = append(p.from, from)
			p.to = append(p.to, len(p.order))
		}
	}
	return p
}

func (p *partition) length(block int) int { return p.to[block] - p.from[block] }

// backwards returns, for each letter and each state, the states that lead there.
func backwards(t *table) [][][]int {
	back := make([][][]int, t.letters)
	for letter := range back {
		back[letter] = make([][]int, t.size())
		for state := range t.accept {
			next := t.next[state*t.letters+letter]
			back[letter][next] = append(back[letter][next], state)
		}
	}
	return back
}

// mark moves the states that lead to members to the beginnings of their blocks,
// and returns these blocks.
func (p *partition) mark(members []int, back [][]int, marked []int) []int {
	var touched []int
	for _, member := range members {
		for _, state := range back[member] {
			b := p.block[state]
			if marked[b] == 0 {
				touched = append(touched, b)
			}
			p.exchange(p.place[state], p.from[b]+marked[b])
			marked[b]++
		}
	}
	return touched
}

func (p *partition) exchange(i, j int) {
	p.order[i], p.order[j] = p.order[j], p.order[i]
	p.place[p.order[i]], p.place[p.order[j]] = i, j
}

// split makes a block of the marked states of a block, unless these are all of
// them, and returns it, or -1.
func (p *partition) split(b int, marked []int) int {
	n := marked[b]
	marked[b] = 0
	if n == p.length(b) {
		return -1
	}
	added := len(p.from)
	p.from = append(p.from, p.from[b])
	p.to = append(p.to, p.from[b]+n)
	p.from[b] += n
	for _, state := range p.order[p.from[added]:p.to[added]] {
		p.block[state] = added
	}
	return added
}
