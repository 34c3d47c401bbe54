package anchor

import (
	"fmt"
	"math/rand"
	"reflect"
	"slices"
	"strings"
	"testing"

	"datakit/api"
	"datakit/limit"
	"datakit/tree"
)

func scalar(s string) api.Node       { return api.Node{Kind: api.NScalar, Text: s} }
func list(kids ...api.Node) api.Node { return api.Node{Kind: api.NList, Kids: kids} }
func anc(name string, kid api.Node) api.Node {
	return api.Node{Kind: api.NAnchor, Text: "&" + name, Lead: " ", Kids: []api.Node{kid}}
}
func alias(name string) api.Node { return api.Node{Kind: api.NAlias, Text: "*" + name, Lead: "  "} }

func aliasLimits(aliases, expand int) api.Limits {
	l := limit.Usual()
	l.Aliases, l.Expand = aliases, expand
	return l
}

var one = scalar("1")

// P22.2 to P22.4
func TestExamples(t *testing.T) {
	n := list(anc("x", one), alias("x"), alias("x"))
	if u, err := Check(n, limit.Usual()); err != api.OK || u != (api.Usage{Aliases: 2, Expand: 2}) {
		t.Error(u, err)
	}
	if e, err := Expand(n, limit.Usual()); err != api.OK || !tree.Same(e, list(one, one, one)) {
		t.Error(e, err)
	}
	if c, err := Cost(n); c != 4 || err != api.OK || Aliases(n) != 2 {
		t.Error(c, err)
	}
	n = list(anc("a", list(one, one)), anc("b", list(alias("a"), alias("a"))), anc("c", list(alias("b"), alias("b"))))
	if u, err := Check(n, limit.Usual()); err != api.OK || u != (api.Usage{Aliases: 4, Expand: 20}) {
		t.Error(u, err)
	}
	if c, err := Cost(n); c != 26 || err != api.OK || Aliases(n) != 4 {
		t.Error(c, err)
	}
	for _, test := range []struct {
		aliases, expand int
		err             api.Errno
	}{{4, 20, api.OK}, {3, 20, api.ErrAlias}, {4, 19, api.ErrExpand}, {3, 12, api.ErrExpand}, {0, 0, api.ErrAlias}, {1, 2, api.ErrExpand}, {-1, 2, api.ErrArg}} {
		u, err := Check(n, aliasLimits(test.aliases, test.expand))
		e, err2 := Expand(n, aliasLimits(test.aliases, test.expand))
		if err != test.err || err2 != test.err || err != api.OK && (u != api.Usage{} || !reflect.DeepEqual(e, api.Node{})) {
			t.Error(test, err, err2)
		}
	}
}

// P22.1 to P22.4: errors
func TestErrors(t *testing.T) {
	for _, test := range []struct {
		n     api.Node
		check api.Errno
		names api.Errno
	}{
		{anc("x", list(alias("x"))), api.ErrAlias, api.OK}, {list(alias("x"), anc("x", one)), api.ErrAlias, api.OK}, {list(anc("x", one), anc("x", one)), api.ErrExists, api.ErrExists},
		{anc("x", anc("x", one)), api.ErrExists, api.ErrExists}, {list(alias("y"), anc("x", one), anc("x", one)), api.ErrAlias, api.ErrExists}, {alias("x"), api.ErrAlias, api.OK}, {anc("x", anc("y", list(alias("y")))), api.ErrAlias, api.OK},
		{anc("", one), api.ErrArg, api.ErrArg}, {anc("a b", one), api.ErrArg, api.ErrArg}, {anc("é", one), api.ErrArg, api.ErrArg}, {alias(""), api.ErrArg, api.ErrArg}, {anc(strings.Repeat("x", 65), one), api.ErrArg, api.ErrArg}, {anc(strings.Repeat("x", 64), one), api.OK, api.OK}, {anc("A-z_9", one), api.OK, api.OK},
		{api.Node{Kind: api.NAnchor, Text: "&a"}, api.ErrArg, api.ErrArg}, {api.Node{Kind: api.NAnchor, Text: "*a", Kids: []api.Node{one}}, api.ErrArg, api.ErrArg}, {api.Node{Kind: api.NAnchor, Text: "&a", Kids: []api.Node{one, one}}, api.ErrArg, api.ErrArg}, {api.Node{Kind: api.NAlias, Text: "&a"}, api.ErrArg, api.ErrArg}, {api.Node{Kind: api.NAlias, Text: "*a", Tail: "x"}, api.ErrArg, api.ErrArg}, {api.Node{}, api.ErrArg, api.ErrArg}, {list(one, api.Node{Kind: 99}), api.ErrArg, api.ErrArg},
	} {
		u, err := Check(test.n, limit.Usual())
		if err != test.check || err != api.OK && u != (api.Usage{}) {
			t.Errorf("Check(%v) = %v", test.n, err)
		}
		if e, err := Expand(test.n, limit.Usual()); err != test.check || err != api.OK && !reflect.DeepEqual(e, api.Node{}) {
			t.Errorf("Expand(%v) = %v", test.n, err)
		}
		if c, err := Cost(test.n); err != test.check || err != api.OK && c != 0 {
			t.Errorf("Cost(%v) = %v", test.n, err)
		}
		if l, err := Names(test.n); err != test.names || err != api.OK && l != nil {
			t.Errorf("Names(%v) = %v", test.n, err)
		}
		if test.names == api.ErrArg && Aliases(test.n) != 0 {
			t.Error("Aliases")
		}
	}
	names, err := Names(anc("b", list(anc("a", one), anc("c", one))))
	if err != api.OK || !slices.Equal(names, []string{"b", "a", "c"}) {
		t.Error(names)
	}
}

// P22.3: the size of expansions
func TestExpandSize(t *testing.T) {
	deep := one
	for range 100 {
		deep = list(deep)
	}
	around := func(n api.Node, levels int) api.Node {
		for range levels {
			n = list(n)
		}
		return n
	}
	n := list(anc("x", deep), around(alias("x"), 90))
	if _, err := Expand(n, limit.Usual()); err != api.OK {
		t.Error(err)
	}
	n = list(anc("x", deep), around(alias("x"), 91))
	if _, err := Expand(n, limit.Usual()); err != api.ErrDepth {
		t.Error(err)
	}
	if _, err := Check(n, limit.Usual()); err != api.OK {
		t.Error(err)
	}
	big := list(anc("x", api.Node{Kind: api.NScalar, Text: strings.Repeat("x", api.MaxInput/3)}), alias("x"), alias("x"))
	if _, err := Expand(big, limit.Usual()); err != api.OK {
		t.Error(err)
	}
	big.Kids = append(big.Kids, alias("x"))
	if _, err := Expand(big, limit.Usual()); err != api.ErrSize {
		t.Error(err)
	}
	// Aliases of what is no value cost nothing, but their copies take room.
	n = list(anc("a0", api.Node{Kind: api.NMark}))
	for i := range 100 {
		a := fmt.Sprintf("a%d", i)
		n.Kids = append(n.Kids, anc(fmt.Sprintf("a%d", i+1), api.Node{Kind: api.NEntry, Kids: []api.Node{alias(a), alias(a)}}))
	}
	if c, err := Cost(n); c != 1 || err != api.OK {
		t.Error(c, err)
	}
	if _, err := Expand(n, limit.Usual()); err != api.ErrSize {
		t.Error(err)
	}
}

func random(r *rand.Rand, depth int, names *[]string) api.Node {
	switch k := r.Intn(8); {
	case k == 0 && len(*names) > 0:
		return alias((*names)[r.Intn(len(*names))])
	case k == 1:
		kid := random(r, depth, names)
		name := fmt.Sprintf("n%d", len(*names))
		*names = append(*names, name)
		return anc(name, kid)
	case k < 5 && depth > 0:
		n := api.Node{Kind: []int{api.NList, api.NMap, api.NEntry}[r.Intn(3)], Text: "[", Tail: "]"}
		for range r.Intn(4) {
			n.Kids = append(n.Kids, random(r, depth-1, names))
		}
		return n
	}
	return []api.Node{one, {Kind: api.NMark, Text: ","}, {Kind: api.NKey, Text: "k"}}[r.Intn(3)]
}

func values(n api.Node) (count, names int) {
	for _, node := range tree.Walk(n) {
		switch node.Kind {
		case api.NScalar, api.NList, api.NMap:
			count++
		case api.NAnchor, api.NAlias:
			names++
		}
	}
	return count, names
}

// P22.5, W12
func TestConsequences(t *testing.T) {
	r := rand.New(rand.NewSource(1))
	for range 3000 {
		var names []string
		n := random(r, 4, &names)
		u, err := Check(n, limit.Usual())
		if err != api.OK {
			t.Fatal(err)
		}
		e, err := Expand(n, limit.Usual())
		if err != api.OK {
			t.Fatal(err)
		}
		cost, _ := Cost(n)
		count, left := values(e)
		own, named := values(n)
		if left != 0 || count != cost || cost != own+u.Expand || u.Aliases != Aliases(n) {
			t.Fatal(n, e, cost)
		}
		if named == 0 && !tree.Same(n, e) {
			t.Fatal(n)
		}
		before := tree.Print(n)
		for i := range e.Kids {
			e.Kids[i].Text = "changed"
		}
		if tree.Print(n) != before {
			t.Fatal("shared memory")
		}
		list, _ := Names(n)
		if len(list) != len(names) {
			t.Fatal(list)
		}
	}
}
