package tree

import (
	"math"
	"math/rand"
	"slices"
	"strings"
	"testing"

	"datakit/api"
)

type node = api.Node

func list(kids ...node) node { return node{Kind: api.NList, Text: "[", Kids: kids, Tail: "]"} }

var sample = list(node{Kind: api.NScalar, Lead: " ", Text: "1"}, node{Kind: api.NEntry, Lead: "-", Kids: []node{list(), {Kind: api.NMark, Text: ","}}, Tail: "+"})

func deep(depth int) node {
	n := node{Kind: api.NList}
	for range depth - 1 {
		n = node{Kind: api.NList, Kids: []node{n}}
	}
	return n
}

// P13.1
func TestCheck(t *testing.T) {
	wide := node{Kind: api.NList, Kids: make([]node, api.MaxTreeSize)}
	for i := range wide.Kids {
		wide.Kids[i].Kind = api.NScalar
	}
	narrow := wide
	narrow.Kids = wide.Kids[1:]
	long := strings.Repeat("x", api.MaxInput/2)
	for i, c := range []struct {
		n node
		e api.Errno
	}{{sample, 0}, {deep(api.MaxTree), 0}, {deep(api.MaxTree + 1), api.ErrDepth}, {deep(60000), api.ErrDepth}, {wide, api.ErrSize}, {narrow, 0}, {node{}, api.ErrKind}, {node{Kind: api.NKinds}, api.ErrKind}, {node{Kind: -1}, api.ErrKind},
		{node{Kind: api.NScalar, Tail: "x"}, api.ErrArg}, {node{Kind: api.NKey, Kids: []node{list()}}, api.ErrArg}, {node{Kind: api.NAlias, Tail: "x"}, api.ErrArg}, {node{Kind: api.NMark, Tail: "x"}, api.ErrArg}, {node{Kind: api.NRecord, Tail: "x"}, 0},
		{list(node{Kind: 99}, node{Kind: api.NMark, Tail: "x"}), api.ErrKind}, {node{Kind: api.NList, Lead: long, Text: long}, 0}, {node{Kind: api.NList, Lead: long, Text: long, Tail: "x"}, api.ErrSize}, {list(node{Kind: 99, Lead: long + long}), api.ErrKind}} {
		if e := Check(c.n); e != c.e {
			t.Errorf("case %d: %v", i, e)
		}
	}
}

// P13.2
func TestMeasures(t *testing.T) {
	if Print(sample) != "[ 1-[],+]" || Len(sample) != 9 || Count(sample) != 5 || Depth(sample) != 3 || Depth(node{}) != 1 || Depth(deep(192)) != 192 || Len(node{}) != 0 {
		t.Errorf("%q %d %d %d", Print(sample), Len(sample), Count(sample), Depth(sample))
	}
}

// P13.3
func TestGetPut(t *testing.T) {
	if n, ok := Get(sample, 1, 0); !ok || !Same(n, list()) {
		t.Error("Get")
	}
	if n, ok := Get(sample); !ok || !Same(n, sample) {
		t.Error("Get of the root")
	}
	n, _ := Get(sample, 1)
	n.Kids[0].Text = "changed"
	for _, kids := range [][]int{{2}, {-1}, {0, 0}, {1, 2}, {math.MaxInt}} {
		if n, ok := Get(sample, kids...); ok || !Same(n, node{}) {
			t.Errorf("Get %v", kids)
		}
		if n, e := Put(sample, list(), kids...); e != api.ErrNotFound || !Same(n, node{}) {
			t.Errorf("Put %v", kids)
		}
		if _, e := Whole(sample, kids...); e != api.ErrNotFound {
			t.Errorf("Whole %v", kids)
		}
		if s, e := Inner(sample, kids...); e != api.ErrNotFound || s != (api.Span{}) {
			t.Errorf("Inner %v", kids)
		}
	}
	x := node{Kind: 77, Text: "x", Kids: []node{{Text: "y"}}}
	n, e := Put(sample, x, 1, 0)
	x.Kids[0].Text = "changed"
	if Print(n) != "[ 1-xy,+]" || e != api.OK || Print(sample) != "[ 1-[],+]" {
		t.Errorf("Put: %s", Print(n))
	}
	if n, e := Put(sample, deep(300), 1, 0); e != api.OK || Check(n) != api.ErrDepth {
		t.Error("Put of a deep tree")
	}
	if n, e := Put(sample, list()); !Same(n, list()) || e != api.OK {
		t.Error("Put at the root")
	}
}

// P13.4
func TestSpans(t *testing.T) {
	for _, c := range []struct {
		kids         []int
		whole, inner api.Span
	}{{nil, api.Span{To: 9}, api.Span{To: 9}}, {[]int{0}, api.Span{From: 1, To: 3}, api.Span{From: 2, To: 3}}, {[]int{1}, api.Span{From: 3, To: 8}, api.Span{From: 4, To: 8}}, {[]int{1, 1}, api.Span{From: 6, To: 7}, api.Span{From: 6, To: 7}}} {
		whole, e := Whole(sample, c.kids...)
		inner, f := Inner(sample, c.kids...)
		if whole != c.whole || inner != c.inner || e != api.OK || f != api.OK {
			t.Errorf("%v: %v, %v", c.kids, whole, inner)
		}
	}
}

// P13.5, P13.6
func TestFindWalk(t *testing.T) {
	want := [][]int{{}, {0}, {0}, {1}, {1, 0}, {1, 0}, {1, 1}, {1}, {}}
	for at := range want {
		if got, ok := Find(sample, at); !ok || !slices.Equal(got, want[at]) {
			t.Errorf("Find %d: %v", at, got)
		}
	}
	for _, at := range []int{-1, 9, math.MaxInt, math.MinInt} {
		if got, ok := Find(sample, at); ok || got != nil {
			t.Errorf("Find %d", at)
		}
	}
	var all [][]int
	for at, n := range Walk(sample) {
		x, ok := Get(sample, at...)
		if !ok || !Same(x, n) {
			t.Errorf("Walk %v", at)
		}
		all = append(all, at)
	}
	if !slices.EqualFunc(all, [][]int{{}, {0}, {1}, {1, 0}, {1, 1}}, slices.Equal[[]int]) {
		t.Errorf("Walk: %v", all)
	}
	for range Walk(sample) {
		break
	}
}

// P13.7
func TestSame(t *testing.T) {
	for i, n := range []node{list(), {Kind: api.NMap, Text: "[", Tail: "]"}, {Kind: api.NList, Text: "[", Tail: "]", Lead: " "}, {Kind: api.NList, Text: "["}, {Kind: api.NList, Tail: "]"}, list(list()), list(list(), list())} {
		if Same(n, list()) != (i == 0) || !Same(n, n) {
			t.Errorf("case %d", i)
		}
	}
	if Same(list(list()), list(list(list()))) {
		t.Error("kids")
	}
}

func random(r *rand.Rand, depth int) node {
	text := func() string { return strings.Repeat("x", r.Intn(3)) }
	n := node{Kind: api.NList, Lead: text(), Text: text(), Tail: text()}
	for range r.Intn(4) * min(depth, 1) {
		n.Kids = append(n.Kids, random(r, depth-1))
	}
	return n
}

// P13.8
func TestReplacement(t *testing.T) {
	r := rand.New(rand.NewSource(10))
	for range 200 {
		n := random(r, 4)
		text := Print(n)
		for at := range Walk(n) {
			x := random(r, 1)
			m, _ := Put(n, x, at...)
			s, _ := Whole(n, at...)
			if Print(m) != text[:s.From]+Print(x)+text[s.To:] {
				t.Fatal("Put")
			}
		}
		for at := range len(text) {
			kids, ok := Find(n, at)
			s, _ := Whole(n, kids...)
			x, _ := Get(n, kids...)
			if !ok || at < s.From || at >= s.To {
				t.Fatal("Find")
			}
			for i := range x.Kids {
				s, _ := Whole(n, append(kids, i)...)
				if s.From <= at && at < s.To {
					t.Fatal("a kid has the byte")
				}
			}
		}
	}
}
