package diff

import (
	"math/rand"
	"reflect"
	"testing"

	"datakit/api"
	"datakit/brace"
	"datakit/limit"
	"datakit/patch"
	"datakit/path"
	"datakit/value"
)

func val(t *testing.T, src string) api.Value {
	t.Helper()
	v, _, err := brace.Read(src, limit.Usual())
	if err != api.OK {
		t.Fatal(src, err)
	}
	return v
}

func show(l []api.Change) string {
	out := ""
	for _, c := range l {
		old, _ := brace.Inline(c.Old)
		new, _ := brace.Inline(c.New)
		out += []string{"?", "replace", "insert", "remove", "test"}[c.Op] + " " + path.Text(c.Path) + " " + string(rune('0'+c.At)) + " " + old + " " + new + "; "
	}
	return out
}

// P55.1
func TestCommon(t *testing.T) {
	for _, test := range []struct {
		a, b string
		want [][2]int
	}{{"[1, 2, 3]", "[2, 3, 4]", [][2]int{{1, 0}, {2, 1}}}, {"[1, 2, 1]", "[2, 1, 2]", [][2]int{{0, 1}, {1, 2}}}, {"[]", "[1]", nil}, {"[1]", "[2]", nil}, {"[1, 1]", "[1]", [][2]int{{0, 0}}}, {"[5, 1, 9]", "[5, 9]", [][2]int{{0, 0}, {2, 1}}}, {"[{a: 1, b: 2}]", "[0, {b: 2, a: 1}]", [][2]int{{0, 1}}}, {"[1, 2]", "[2, 1]", [][2]int{{0, 1}}}, {"[7, 1, 2, 8]", "[7, 2, 1, 8]", [][2]int{{0, 0}, {1, 2}, {3, 3}}}} {
		if got := Common(val(t, test.a).List, val(t, test.b).List); !reflect.DeepEqual(got, test.want) {
			t.Error(test, got)
		}
	}
	var a, b []api.Value
	for i := range 1100 {
		a = append(a, value.Int(i%7))
		b = append(b, value.Int((i+3)%7))
	}
	a[0], b[0], a[1099], b[1099] = value.Int(50), value.Int(50), value.Int(51), value.Int(51)
	if got := Common(a, b); !reflect.DeepEqual(got, [][2]int{{0, 0}, {1099, 1099}}) {
		t.Error(len(got))
	}
	if got := Common(a[:900], b[:900]); len(got) < 800 {
		t.Error(len(got))
	}
}

// brute finds the first longest common subsequence by trying all.
func brute(a, b []api.Value, i, j int) [][2]int {
	var best [][2]int
	for x := i; x < len(a); x++ {
		for y := j; y < len(b); y++ {
			if value.Equal(a[x], b[y]) {
				if rest := brute(a, b, x+1, y+1); len(rest)+1 > len(best) {
					best = append([][2]int{{x, y}}, rest...)
				}
			}
		}
	}
	return best
}

// P55.2 to P55.4
func TestMake(t *testing.T) {
	for _, test := range [][3]string{{"{a: 1, b: [1, 2]}", "{b: [1, 3], c: 4}", "replace .b[1] 0 2 3; remove .a 0 1 null; insert .c 1 null 4; "}, {"1", "1.0", ""}, {"1", "2", "replace . 0 1 2; "}, {"[1]", "{}", "replace . 0 [1] {}; "}, {"[1, 2, 3]", "[2, 3, 4]", "remove .[0] 0 1 null; insert .[2] 0 null 4; "}, {"[1, 5, 6, 2]", "[1, 7, 2]", "replace .[1] 0 5 7; remove .[2] 0 6 null; "}, {"[1, 2]", "[1, 8, 9, 2]", "insert .[1] 0 null 8; insert .[2] 0 null 9; "}, {"{x: 0, a: 1, y: 0, b: 1}", "{b: 1, a: 1, z: 2, w: 3}", "remove .x 0 0 null; remove .y 1 0 null; insert .z 2 null 2; insert .w 3 null 3; "}, {"{a: 1, b: 2}", "{b: 2, a: 1}", ""}, {"[[1], [2]]", "[[1, 3], [2]]", "insert .[0][1] 0 null 3; "}} {
		l, err := Make(val(t, test[0]), val(t, test[1]))
		if got := show(l); got != test[2] || err != api.OK {
			t.Errorf("%s to %s: %s", test[0], test[1], got)
		}
	}
	for _, test := range [][]string{{"{a: [1, 2]}", "{a: [1, 3]}", ".a[1]"}, {"{a: 1}", "{b: 1}", "."}, {"{a: 1, b: 2}", "{b: 3, a: 4}", ".a", ".b"}, {"[1, 2]", "[1]", "."}, {"1", "1"}, {"[1, [2, 3]]", "[0, [2, 4]]", ".[0]", ".[1][1]"}} {
		got := Between(val(t, test[0]), val(t, test[1]))
		if len(got) != len(test)-2 {
			t.Error(test, got)
			continue
		}
		for i, p := range got {
			if path.Text(p) != test[i+2] {
				t.Error(test, got)
			}
		}
	}
	l := []api.Change{{Op: api.ChReplace, Old: val(t, "[1]"), New: val(t, "2")}, {Op: api.ChInsert, Old: val(t, "[1]"), New: val(t, "[2, 3]")}, {Op: api.ChRemove, Old: val(t, "[1]"), New: val(t, "2")}, {Op: api.ChTest, Old: val(t, "[1]")}, {Op: 9, Old: val(t, "[1]")}}
	if n := Cost(l); n != 3+3+2 {
		t.Error(n)
	}
	a, b := api.Value{Kind: api.VList}, api.Value{Kind: api.VList}
	for i := range api.MaxChanges + 1 {
		a.List = append(a.List, value.Int(i))
		b.List = append(b.List, value.Int(-1-i))
	}
	if l, err := Make(a, b); l != nil || err != api.ErrSize {
		t.Error(err)
	}
	a.List, b.List = a.List[1:], b.List[1:]
	if l, err := Make(a, b); len(l) != api.MaxChanges || err != api.OK {
		t.Error(err)
	}
}

func random(r *rand.Rand, depth int) api.Value {
	if depth == 0 || r.Intn(3) == 0 {
		return value.Int(r.Intn(3))
	}
	v := api.Value{Kind: api.VList + r.Intn(2)}
	if v.Kind == api.VList {
		for range r.Intn(5) {
			v.List = append(v.List, random(r, depth-1))
		}
		return v
	}
	for _, i := range r.Perm(4)[:r.Intn(5)] {
		v.Fields = append(v.Fields, api.Field{Key: string(rune('a' + i)), Val: random(r, depth-1)})
	}
	return v
}

// P55.5, W8
func TestConsequences(t *testing.T) {
	r := rand.New(rand.NewSource(1))
	for range 5000 {
		a, b := random(r, 3), random(r, 3)
		l, err := Make(a, b)
		if err != api.OK || (len(l) == 0) != value.Equal(a, b) || (len(Between(a, b)) == 0) != value.Equal(a, b) {
			t.Fatal(a, b)
		}
		got, at, err := patch.Apply(a, l)
		if err != api.OK || !value.Equal(got, b) {
			t.Fatal(a, b, show(l), at, err)
		}
		back, _, err := patch.Apply(got, patch.Invert(l))
		if err != api.OK || !value.Equal(back, a) {
			t.Fatal(a, b, show(l), err)
		}
		if a.Kind == api.VList && b.Kind == api.VList {
			pairs := Common(a.List, b.List)
			best := brute(a.List, b.List, 0, 0)
			if len(pairs) != len(best) {
				t.Fatal(a, b, pairs, best)
			}
			p := 0
			for p < len(a.List) && p < len(b.List) && value.Equal(a.List[p], b.List[p]) {
				p++
			}
			s := 0
			for s < len(a.List)-p && s < len(b.List)-p && value.Equal(a.List[len(a.List)-1-s], b.List[len(b.List)-1-s]) {
				s++
			}
			middle := brute(a.List[p:len(a.List)-s], b.List[p:len(b.List)-s], 0, 0)
			for i, m := range middle {
				if pairs[p+i] != [2]int{m[0] + p, m[1] + p} {
					t.Fatal(a, b, pairs, middle)
				}
			}
		}
	}
}
