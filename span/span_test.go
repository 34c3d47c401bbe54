package span

import (
	"math"
	"math/rand"
	"slices"
	"strings"
	"testing"

	"datakit/api"
)

func edit(from, to int, text string) api.Edit {
	return api.Edit{At: api.Span{From: from, To: to}, Text: text}
}

// P12.1
func TestCut(t *testing.T) {
	for _, c := range []struct {
		from, to int
		want     string
		e        api.Errno
	}{{0, 3, "abc", 0}, {1, 1, "", 0}, {3, 3, "", 0}, {-1, 1, "", api.ErrRange}, {2, 1, "", api.ErrRange}, {0, 4, "", api.ErrRange}, {math.MinInt, math.MaxInt, "", api.ErrRange}} {
		s := api.Span{From: c.from, To: c.to}
		if got, e := Cut("abc", s); got != c.want || e != c.e || Valid(s, 3) != (e == api.OK) {
			t.Errorf("Cut %v: %q, %v", s, got, e)
		}
	}
}

// P12.2, P12.3
func TestApply(t *testing.T) {
	many := make([]api.Edit, api.MaxEdits+1)
	for i := range many {
		many[i] = edit(i, i+1, "x")
	}
	for i, c := range []struct {
		l    []api.Edit
		want string
		e    api.Errno
	}{{nil, "abc", 0}, {[]api.Edit{edit(1, 2, "xy")}, "axyc", 0}, {[]api.Edit{edit(0, 0, "x"), edit(0, 1, "y"), edit(1, 1, "z"), edit(3, 3, "!")}, "xyzbc!", 0}, {[]api.Edit{edit(1, 1, "x"), edit(1, 1, "y")}, "", api.ErrConflict}, {[]api.Edit{edit(1, 1, "x"), edit(1, 2, ""), edit(2, 2, "y")}, "axyc", 0},
		{[]api.Edit{edit(1, 3, ""), edit(2, 3, "")}, "", api.ErrConflict}, {[]api.Edit{edit(2, 3, ""), edit(0, 1, "")}, "", api.ErrConflict}, {[]api.Edit{edit(0, 1, ""), edit(2, 1, "")}, "", api.ErrRange}, {[]api.Edit{edit(0, 4, "")}, "", api.ErrRange}, {[]api.Edit{edit(2, 3, ""), edit(0, 9, "")}, "", api.ErrRange},
		{many, "", api.ErrSize}, {[]api.Edit{edit(0, 0, strings.Repeat("x", api.MaxInput-2))}, "", api.ErrSize}, {[]api.Edit{edit(0, 3, strings.Repeat("x", api.MaxInput))}, strings.Repeat("x", api.MaxInput), 0}} {
		if got, e := Apply("abc", c.l); got != c.want || e != c.e {
			t.Errorf("case %d: %.20q, %v", i, got, e)
		}
		if _, e := Invert("abc", c.l); e != c.e {
			t.Errorf("case %d: Invert: %v", i, e)
		}
		if _, e := Compose("abc", c.l, nil); e != c.e {
			t.Errorf("case %d: Compose: %v", i, e)
		}
		if _, e := Compose("abc", nil, c.l); e != c.e {
			t.Errorf("case %d: Compose: %v", i, e)
		}
	}
	if Check(many[:api.MaxEdits], api.MaxEdits) != api.OK || Check(nil, -1) != api.OK || Check([]api.Edit{{}}, -1) != api.ErrRange {
		t.Error("Check")
	}
}

// P12.4, P12.5
func TestInvertCompose(t *testing.T) {
	for i, c := range []struct{ l, want []api.Edit }{
		{[]api.Edit{edit(1, 2, "xy")}, []api.Edit{edit(1, 3, "b")}}, {[]api.Edit{edit(0, 1, ""), edit(1, 2, "")}, []api.Edit{edit(0, 0, "ab")}}, {[]api.Edit{edit(1, 1, "")}, nil}, {[]api.Edit{edit(1, 2, "b")}, []api.Edit{edit(1, 2, "b")}}, {[]api.Edit{edit(0, 3, "")}, []api.Edit{edit(0, 0, "abc")}}, {nil, nil},
		{[]api.Edit{edit(0, 0, "x"), edit(3, 3, "y")}, []api.Edit{edit(0, 1, ""), edit(4, 5, "")}}} {
		if got, e := Invert("abc", c.l); !slices.Equal(got, c.want) || e != api.OK {
			t.Errorf("Invert %d: %v, %v", i, got, e)
		}
	}
	for i, c := range []struct{ a, b, want []api.Edit }{
		{[]api.Edit{edit(1, 1, "xy")}, []api.Edit{edit(2, 4, "z")}, []api.Edit{edit(1, 2, "xz")}}, {[]api.Edit{edit(1, 1, "xy")}, []api.Edit{edit(1, 3, "")}, nil}, {[]api.Edit{edit(0, 1, "")}, []api.Edit{edit(0, 0, "a")}, []api.Edit{edit(0, 1, "a")}}, {nil, []api.Edit{edit(0, 1, ""), edit(1, 2, "q")}, []api.Edit{edit(0, 2, "q")}}} {
		if got, e := Compose("abc", c.a, c.b); !slices.Equal(got, c.want) || e != api.OK {
			t.Errorf("Compose %d: %v, %v", i, got, e)
		}
	}
}

// P12.6
func TestMove(t *testing.T) {
	l := []api.Edit{edit(1, 2, "xyz"), edit(2, 2, "!"), edit(4, 6, "")}
	for _, c := range []struct {
		at, want int
		ok       bool
	}{{-1, 0, false}, {math.MinInt, 0, false}, {0, 0, true}, {1, 1, false}, {2, 5, true}, {3, 6, true}, {4, 7, false}, {5, 7, false}, {6, 7, true}, {100, 101, true}} {
		if got, ok := Move(l, c.at); got != c.want || ok != c.ok {
			t.Errorf("Move %d: %d, %v", c.at, got, ok)
		}
	}
}

// P12.7
func TestSingle(t *testing.T) {
	for _, c := range []struct {
		a, b string
		want api.Edit
	}{{"abcd", "axd", edit(1, 3, "x")}, {"aa", "aaa", edit(2, 2, "a")}, {"", "x", edit(0, 0, "x")}, {"x", "", edit(0, 1, "")}, {"abc", "abc", edit(3, 3, "")}, {"aaa", "aa", edit(2, 3, "")}, {"abab", "ab", edit(2, 4, "")}} {
		if got := Single(c.a, c.b); got != c.want {
			t.Errorf("Single(%s, %s): %v", c.a, c.b, got)
		}
	}
}

func random(r *rand.Rand, size int) []api.Edit {
	var l []api.Edit
	for at := 0; at <= size; {
		from := at + r.Intn(3)
		to := min(from+r.Intn(3), size)
		if from > to {
			break
		}
		x := edit(from, to, strings.Repeat("x", r.Intn(3)))
		if Check(append(slices.Clone(l), x), size) == api.OK {
			l = append(l, x)
		}
		at = to + r.Intn(2)
		if r.Intn(6) == 0 {
			break
		}
	}
	return l
}

// P12.8
func TestUndoing(t *testing.T) {
	r := rand.New(rand.NewSource(9))
	src := "abcdefghij"
	for range 3000 {
		a := random(r, len(src))
		middle, _ := Apply(src, a)
		undo, _ := Invert(src, a)
		back, e := Apply(middle, undo)
		if back != src || e != api.OK {
			t.Fatalf("%v: %v gives %q", a, undo, back)
		}
		redo, _ := Invert(middle, undo)
		if again, _ := Apply(src, redo); again != middle {
			t.Fatalf("%v: the inverse of the inverse", a)
		}
		none, _ := Compose(src, a, undo)
		if same, _ := Apply(src, none); same != src {
			t.Fatalf("%v: composed with the inverse", a)
		}
		b := random(r, len(middle))
		text, _ := Apply(middle, b)
		c, e := Compose(src, a, b)
		if got, _ := Apply(src, c); got != text || e != api.OK {
			t.Fatalf("Compose %v, %v: %v", a, b, c)
		}
		for at := range len(src) {
			to, ok := Move(a, at)
			if ok && middle[to] != src[at] {
				t.Fatalf("Move %v, %d", a, at)
			}
			once, twice := false, false
			if ok {
				_, once = Move(b, to)
			}
			_, twice = Move(c, at)
			if once != twice {
				t.Fatalf("Compose %v, %v: %v at %d", a, b, c, at)
			}
		}
	}
}
