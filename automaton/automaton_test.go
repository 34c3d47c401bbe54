package automaton

import (
	"math/rand"
	"reflect"
	"slices"
	"strings"
	"testing"

	"datakit/api"
	"datakit/regex"
)

func build(t *testing.T, text string) api.Machine {
	t.Helper()
	p, err := regex.Parse(text)
	if err != api.OK {
		t.Fatalf("Parse(%q)", text)
	}
	m, err := Build(p)
	if err != api.OK || !Valid(m) {
		t.Fatalf("Build(%q) = %v", text, err)
	}
	return m
}

func arcs(list ...int) []api.Arc {
	var out []api.Arc
	for i := 0; i < len(list); i += 3 {
		out = append(out, api.Arc{Lo: list[i], Hi: list[i+1], Next: list[i+2]})
	}
	return out
}

func random(r *rand.Rand, states int) api.Machine {
	m := api.Machine{States: make([]api.State, states)}
	for i := range m.States {
		m.States[i].Accept = r.Intn(3) == 0
		from := 0
		for _, hi := range []int{96, 97, 98, 255} {
			if hi == 255 || r.Intn(3) > 0 {
				m.States[i].Arcs = append(m.States[i].Arcs, api.Arc{Lo: from, Hi: hi, Next: r.Intn(states)})
				from = hi + 1
			}
		}
	}
	return m
}

// P16.1
func TestValidAccepts(t *testing.T) {
	m := build(t, "a*")
	want := api.Machine{States: []api.State{{Accept: true, Arcs: arcs(0, 96, 1, 97, 97, 0, 98, 255, 1)}, {Arcs: arcs(0, 255, 1)}}}
	if !reflect.DeepEqual(m, want) {
		t.Error(m)
	}
	if !Accepts(m, "") || !Accepts(m, "aaa") || Accepts(m, "ab") {
		t.Error("Accepts")
	}
	one := func(a ...int) api.Machine { return api.Machine{States: []api.State{{Accept: true, Arcs: arcs(a...)}}} }
	big := api.Machine{States: make([]api.State, api.MaxStates+1)}
	for i := range big.States {
		big.States[i] = api.State{Accept: true, Arcs: arcs(0, 255, i)}
	}
	bad := []api.Machine{{}, one(), one(0, 254, 0), one(1, 255, 0), one(0, 256, 0), one(0, 255, 1), one(0, 255, -1), one(0, 10, 0, 10, 255, 0), one(0, 10, 0, 12, 255, 0), one(0, 10, 0, 11, 10, 0, 11, 255, 0), big, one(0, -1, 0, 0, 255, 0), one(0, 255, 0, 256, 256, 0)}
	for _, b := range bad {
		if Valid(b) || Accepts(b, "") || !Empty(b) || Equal(b, b) || Equal(m, b) || Some(b, 3) != nil {
			t.Errorf("%v is used", b)
		}
		if s, ok := Shortest(b); ok || s != "" {
			t.Error("Shortest")
		}
		if Not(b).States != nil || Least(b).States != nil {
			t.Error("Not, Least")
		}
		for _, f := range []func(a, b api.Machine) (api.Machine, api.Errno){And, Or, Minus} {
			for _, args := range [][2]api.Machine{{b, m}, {m, b}} {
				if x, err := f(args[0], args[1]); err != api.ErrArg || x.States != nil {
					t.Error("And, Or, Minus")
				}
			}
		}
	}
	big.States = big.States[:api.MaxStates]
	if !Valid(big) {
		t.Error("MaxStates")
	}
}

// moore is another way to find how many states an automaton needs.
func moore(m api.Machine) int {
	reach := []int{0}
	seen := map[int]bool{0: true}
	for i := 0; i < len(reach); i++ {
		for _, a := range m.States[reach[i]].Arcs {
			if !seen[a.Next] {
				seen[a.Next] = true
				reach = append(reach, a.Next)
			}
		}
	}
	differ := map[[2]int]bool{}
	for again := true; again; {
		again = false
		for _, x := range reach {
			for _, y := range reach {
				if differ[[2]int{x, y}] {
					continue
				}
				d := m.States[x].Accept != m.States[y].Accept
				for b := 90; b < 110 && !d; b++ {
					d = differ[[2]int{after(m.States[x].Arcs, b), after(m.States[y].Arcs, b)}]
				}
				if d {
					differ[[2]int{x, y}] = true
					again = true
				}
			}
		}
	}
	n := 0
	for i, x := range reach {
		same := false
		for _, y := range reach[:i] {
			same = same || !differ[[2]int{x, y}]
		}
		if !same {
			n++
		}
	}
	return n
}

// inOrder reports whether the states are met in order, and neighbouring arcs
// lead to different states.
func inOrder(m api.Machine) bool {
	met := 1
	for i, s := range m.States {
		if i >= met {
			return false
		}
		for j, a := range s.Arcs {
			if a.Next > met || j > 0 && s.Arcs[j-1].Next == a.Next {
				return false
			}
			if a.Next == met {
				met++
			}
		}
	}
	return met == len(m.States)
}

func words(max int) []string {
	list := []string{""}
	for from := 0; len(list[len(list)-1]) < max; {
		to := len(list)
		for _, w := range list[from:to] {
			for _, c := range []string{"a", "b", "c"} {
				list = append(list, w+c)
			}
		}
		from = to
	}
	return list
}

// P16.2, P16.3, P16.6, P16.7, P16.8
func TestRandomMachines(t *testing.T) {
	r := rand.New(rand.NewSource(1))
	list := words(6)
	for range 200 {
		a, b := random(r, 1+r.Intn(6)), random(r, 1+r.Intn(6))
		least, not := Least(a), Not(a)
		if !Valid(least) || !inOrder(least) || len(least.States) != moore(a) {
			t.Fatalf("Least(%v) = %v", a, least)
		}
		if !reflect.DeepEqual(Least(least), least) || !Equal(a, least) || Equal(a, not) {
			t.Fatal("Least, Equal")
		}
		both, _ := And(a, b)
		either, _ := Or(a, b)
		minus, _ := Minus(a, b)
		for _, m := range []api.Machine{both, either, minus} {
			if !reflect.DeepEqual(Least(m), m) {
				t.Fatal("not the least automaton")
			}
		}
		same := true
		for _, w := range list {
			x, y := Accepts(a, w), Accepts(b, w)
			same = same && x == y
			if Accepts(least, w) != x || Accepts(not, w) == x || Accepts(both, w) != (x && y) || Accepts(either, w) != (x || y) || Accepts(minus, w) != (x && !y) {
				t.Fatalf("%v %v: %q", a, b, w)
			}
		}
		if len(not.States) != len(a.States) {
			t.Error("Not")
		}
		if Equal(a, b) && !same || Equal(a, b) != reflect.DeepEqual(Least(a), Least(b)) {
			t.Error("Equal")
		}
	}
}

// P16.3
func TestPairsLimit(t *testing.T) {
	cycle := func(n int) api.Machine {
		m := api.Machine{}
		for i := range n {
			m.States = append(m.States, api.State{Accept: i == 0, Arcs: arcs(0, 255, (i+1)%n)})
		}
		return m
	}
	if _, err := And(cycle(32), cycle(33)); err != api.ErrLimit {
		t.Error(err)
	}
	if m, err := And(cycle(31), cycle(33)); err != api.OK || len(m.States) != 31*33 {
		t.Error(err, len(m.States))
	}
	if m, err := Or(cycle(32), cycle(32)); err != api.OK || len(m.States) != 32 {
		t.Error(err)
	}
	if m, err := And(cycle(1024), cycle(1)); err != api.OK || len(m.States) != 1024 {
		t.Error(err)
	}
	for _, f := range []func(a, b api.Machine) (api.Machine, api.Errno){And, Or, Minus} {
		if m, err := f(cycle(1024), cycle(1023)); err != api.ErrLimit || m.States != nil {
			t.Error(err)
		}
	}
}

func pattern(r *rand.Rand, size int) api.Pattern {
	if size <= 1 {
		switch r.Intn(7) {
		case 0:
			return api.Pattern{}
		case 1:
			return api.Pattern{Op: api.RxEmpty}
		case 2:
			return api.Pattern{Op: api.RxRange, Lo: 'a', Hi: 'b'}
		case 3:
			return api.Pattern{Op: api.RxRange, Hi: 255}
		}
		c := 'a' + r.Intn(2)
		return api.Pattern{Op: api.RxRange, Lo: c, Hi: c}
	}
	switch r.Intn(6) {
	case 0:
		return api.Pattern{Op: api.RxNot, Args: []api.Pattern{pattern(r, size-1)}}
	case 1:
		lo := r.Intn(3)
		hi := lo + r.Intn(3)
		if r.Intn(2) == 0 {
			hi = -1
		}
		return api.Pattern{Op: api.RxRepeat, Min: lo, Max: hi, Args: []api.Pattern{pattern(r, size-1)}}
	}
	ops := []int{api.RxCat, api.RxCat, api.RxCat, api.RxAlt, api.RxAnd}
	return api.Pattern{Op: ops[r.Intn(len(ops))], Args: []api.Pattern{pattern(r, size/2), pattern(r, size/2), pattern(r, size-size/2)}[r.Intn(2):]}
}

// P16.4, P16.5, P16.7
func TestRandomPatterns(t *testing.T) {
	r := rand.New(rand.NewSource(2))
	list := words(5)
	for range 300 {
		p := pattern(r, 1+r.Intn(12))
		m, err := Build(p)
		if err == api.ErrLimit {
			continue
		}
		if err != api.OK || !reflect.DeepEqual(Least(m), m) {
			t.Fatalf("Build(%q) = %v", regex.Text(p), err)
		}
		only, _ := And(m, build(t, "[a-c]{0,5}"))
		var found []string
		for _, w := range list {
			ok := regex.Match(p, w)
			if Accepts(m, w) != ok {
				t.Fatalf("Build(%q), %q", regex.Text(p), w)
			}
			if ok {
				found = append(found, w)
			}
		}
		if got := Some(only, 1000); !slices.Equal(got, found) {
			t.Fatalf("Some(%q) = %q, not %q", regex.Text(p), got, found)
		}
		if got := Some(only, 5); !slices.Equal(got, found[:min(5, len(found))]) {
			t.Fatalf("Some(%q) = %q", regex.Text(p), got)
		}
		s, ok := Shortest(only)
		if ok != (len(found) > 0) || ok && s != found[0] || Empty(only) == ok {
			t.Fatalf("Shortest(%q) = %q", regex.Text(p), s)
		}
	}
}

// P16.4
func TestBuild(t *testing.T) {
	if m := build(t, "(a|b)*a(a|b){7,7}"); len(m.States) != 257 {
		t.Error(len(m.States))
	}
	for text, want := range map[string]api.Errno{
		"(a|b)*a(a|b){8,8}": api.ErrLimit, "!((a|b)*a(a|b){8,8})": api.ErrLimit, "()|(a|b)*a(a|b){8,8}&[]": api.ErrLimit,
		"[]&(a|b)*a(a|b){8,8}": api.ErrLimit, "[]((a|b)*a(a|b){8,8})": api.ErrLimit, "(a|b){8,8}a(a|b)*": api.OK, "a{64,64}{15,15}": api.OK, "a{64,64}{16,16}": api.ErrLimit,
		"a{64,64}{15,}": api.ErrLimit, "a{64,64}{14,}": api.OK, "((a|b)*a(a|b){8,8}){0,0}": api.ErrLimit,
	} {
		p, err := regex.Parse(text)
		if err != api.OK {
			t.Errorf("Parse(%q)", text)
		}
		if _, err := Build(p); err != want {
			t.Errorf("Build(%q) = %v", text, err)
		}
	}
	if m, err := Build(api.Pattern{Op: 9}); err != api.ErrArg || m.States != nil {
		t.Error(err)
	}
	none, all := build(t, "[]"), build(t, ".*")
	if len(none.States) != 1 || none.States[0].Accept || len(all.States) != 1 || !all.States[0].Accept {
		t.Error("none, all")
	}
	if m := build(t, "."); !reflect.DeepEqual(m, api.Machine{States: []api.State{{Arcs: arcs(0, 255, 1)}, {Accept: true, Arcs: arcs(0, 255, 2)}, {Arcs: arcs(0, 255, 2)}}}) {
		t.Error(m)
	}
	if m := build(t, strings.Repeat("a", 511)); len(m.States) != 513 {
		t.Error(len(m.States))
	}
}

// P16.4: the sets of what follows have all states, also those from which
// nothing is accepted, and the start of a repetition is a state of its own.
func TestBuildLimits(t *testing.T) {
	chain := func(n int) string {
		return strings.Repeat("a", n)
	}
	for text, want := range map[string]api.Errno{
		"b" + chain(510):                        api.OK,
		"a{64,64}{15,15}a{61,61}":               api.OK,
		"a{64,64}{15,15}a{62,62}":               api.ErrLimit,
		"a{64,64}{7,7}a{60,60}*":                api.OK,
		"(a{64,64}{7,7}a{63,63})*":              api.OK,
		"(a{64,64}{7,7}a{64,64})*":              api.ErrLimit,
		"(a{64,64}{15,15}a{62,62}|b)*":          api.ErrLimit,
		"(a{64,64}{15,15}a{62,62})?":            api.ErrLimit,
		"(a{64,64}{15,15}a{61,61})?":            api.OK,
		"a{64,64}{15,15}a{61,61}|a{64,64}&!a?b": api.OK,
	} {
		p, err := regex.Parse(text)
		if err != api.OK {
			t.Fatalf("Parse(%q)", text)
		}
		if _, err := Build(p); err != want {
			t.Errorf("Build(%.40q) = %v, not %v", text, err, want)
		}
	}
}

// P16.5
func TestSome(t *testing.T) {
	m := build(t, "(ab|c)*")
	if got := Some(m, 4); !slices.Equal(got, []string{"", "c", "ab", "cc"}) {
		t.Errorf("%q", got)
	}
	if Some(m, 0) != nil || Some(m, -5) != nil || len(Some(m, 5000)) != api.MaxStates {
		t.Error("the number of strings")
	}
	if got := Some(build(t, "a{64,64}|()"), 9); !slices.Equal(got, []string{"", strings.Repeat("a", 64)}) {
		t.Errorf("%q", got)
	}
	if got := Some(build(t, "a{64,64}*"), 3); len(got) != 3 || len(got[2]) != 128 {
		t.Errorf("%q", got)
	}
	all := Some(build(t, ".*"), 600)
	if all[0] != "" || all[1] != "\x00" || all[256] != "\xff" || all[257] != "\x00\x00" || all[599] != "\x01\x56" {
		t.Errorf("%q", all[599])
	}
	if s, ok := Shortest(build(t, "b|a.|ca")); !ok || s != "b" {
		t.Error(s)
	}
	if s, ok := Shortest(build(t, "bz|a[x-z]|cc")); !ok || s != "ax" {
		t.Error(s)
	}
	if Empty(build(t, "a")) || !Empty(build(t, "a&b")) {
		t.Error("Empty")
	}
}

// R5
func TestNoSharing(t *testing.T) {
	m := build(t, "ab*")
	for _, x := range []api.Machine{Not(m), Least(m)} {
		x.States[0].Arcs[0].Next = 9
	}
	if !reflect.DeepEqual(m, build(t, "ab*")) {
		t.Error("shared memory")
	}
}
