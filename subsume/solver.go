package subsume

import (
	"slices"
	"strconv"
	"strings"

	"datakit/api"
)

// node is a node of a schema. Kids are those of its Args, or, of a map, those of
// its Props in ascending order of their keys, and then that of other fields.
type node struct {
	*api.Schema
	keys     []string
	required []bool
	kids     []int
}

// literal returns the number of a node or of its negation.
func literal(n int, neg bool) int {
	if neg {
		return 2*n + 1
	}
	return 2 * n
}

// sorted returns literals in ascending order, each once.
func sorted(l []int) []int {
	slices.Sort(l)
	return slices.Compact(l)
}

// question asks for a value, nested so deep at most, for which literals hold.
type question struct {
	literals string
	depth    int
}

// answer is a value with the fewest values in it.
type answer struct {
	v    api.Value
	size int
}

// choice asks for the clauses of a literal for the values of a kind.
type choice struct{ literal, kind int }

// solver answers questions. What is known it keeps; limited says that something
// could not be decided.
type solver struct {
	nodes    []node
	defs     map[string]int
	answers  map[question]*answer
	clauses  map[choice][]clause
	machines map[int]api.Machine
	effort   int
	limited  bool
}

// The limits of what the solver undertakes; no small question reaches them.
const (
	maxEffort  = 1 << 21
	maxClauses = 1 << 14
)

func newSolver(defs []api.Def) *solver {
	r := &solver{defs: map[string]int{}, answers: map[question]*answer{}, clauses: map[choice][]clause{}, machines: map[int]api.Machine{}}
	for _, d := range defs {
		r.defs[d.Name] = len(r.nodes)
		r.nodes = append(r.nodes, node{})
	}
	for i := range defs {
		r.fill(i, &defs[i].Schema)
	}
	return r
}

// add adds a schema and returns the number of its node.
func (r *solver) add(x *api.Schema) int {
	if x.Op == api.SRef {
		return r.defs[x.Name]
	}
	number := len(r.nodes)
	r.nodes = append(r.nodes, node{})
	r.fill(number, x)
	return number
}

// fill makes a node of a schema. A definition that is a reference is a union of
// one schema.
func (r *solver) fill(number int, x *api.Schema) {
	n := node{Schema: x}
	if x.Op == api.SRef {
		n.Schema = &api.Schema{Op: api.SAnyOf}
		n.kids = []int{r.defs[x.Name]}
		r.nodes[number] = n
		return
	}
	props := make([]*api.Prop, len(x.Props))
	for i := range props {
		props[i] = &x.Props[i]
	}
	slices.SortFunc(props, func(a, b *api.Prop) int { return strings.Compare(a.Key, b.Key) })
	for _, p := range props {
		n.keys = append(n.keys, p.Key)
		n.required = append(n.required, p.Required)
		kid := r.add(&p.Schema)
		n.kids = append(n.kids, kid)
	}
	for i := range x.Args {
		kid := r.add(&x.Args[i])
		n.kids = append(n.kids, kid)
	}
	r.nodes[number] = n
}

// field returns the node of the field of a map with a key.
func (n *node) field(key string) int {
	i, ok := slices.BinarySearch(n.keys, key)
	if !ok {
		i = len(n.keys)
	}
	return n.kids[i]
}

// work counts what the solver does. It reports whether it may go on.
func (r *solver) work(n int) bool {
	r.effort += n
	if r.effort > maxEffort {
		r.limited = true
	}
	return r.effort <= maxEffort
}

func keyOf(literals []int) string {
	var out strings.Builder
	for _, l := range literals {
		out.WriteString(strconv.Itoa(l) + " ")
	}
	return out.String()
}

// solve returns the smallest value, nested at most so deep, for which literals
// hold, or nil.
func (r *solver) solve(literals []int, depth int) *answer {
	if depth == 0 || !r.work(1) {
		return nil
	}
	q := question{keyOf(literals), depth}
	if a, ok := r.answers[q]; ok {
		return a
	}
	var best *answer
search:
	for kind := range api.VKinds {
		for _, c := range r.all(literals, kind) {
			a := r.ofKind(c, kind, depth)
			if a != nil && (best == nil || a.size < best.size) {
				best = a
			}
			if best != nil && best.size == 1 {
				break search
			}
		}
	}
	r.answers[q] = best
	return best
}

// ofKind returns the smallest value of a kind for which a clause holds.
func (r *solver) ofKind(c clause, kind, depth int) *answer {
	if !r.work(1 + len(c)) {
		return nil
	}
	switch kind {
	case api.VList:
		return r.list(c, depth)
	case api.VMap:
		return r.fields(c, depth)
	}
	if v, ok := r.scalar(c, kind); ok {
		return &answer{v, 1}
	}
	return nil
}
