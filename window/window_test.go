package window

import (
	"math/rand"
	"strings"
	"testing"

	"datakit/api"
)

// P31.1 to P31.5
func TestWindow(t *testing.T) {
	for _, size := range []int{0, -1, api.MaxWindow + 1} {
		if w, err := New(size); w != nil || err != api.ErrArg {
			t.Error(err)
		}
	}
	if w, err := New(api.MaxWindow); err != api.OK || w.Feed(strings.Repeat("x", api.MaxWindow)) != api.OK || w.Free() != 0 {
		t.Error(err)
	}
	w, _ := New(3)
	if w.Len() != 0 || w.Free() != 3 || w.Offset() != 0 || w.Closed() {
		t.Error("new")
	}
	if w.Feed("abcd") != api.ErrMemory || w.Feed("abc") != api.OK || w.Feed("d") != api.ErrMemory || w.Feed("") != api.OK {
		t.Error("Feed")
	}
	if s, err := w.Take(4); s != "" || err != api.ErrRange {
		t.Error(err)
	}
	if _, err := w.Take(-1); err != api.ErrRange {
		t.Error(err)
	}
	if s, err := w.Take(2); s != "ab" || err != api.OK || w.Offset() != 2 || w.Free() != 2 {
		t.Error(s, err)
	}
	if b, ok := w.At(0); b != 99 || !ok {
		t.Error(b)
	}
	for _, i := range []int{-1, 1} {
		if b, ok := w.At(i); b != 0 || ok {
			t.Error(b)
		}
	}
	w.Feed("\xffc")
	for _, test := range []struct {
		b, from, at int
		ok          bool
	}{{'c', 0, 0, true}, {'c', 1, 2, true}, {255, 0, 1, true}, {'c', 3, 0, false}, {'c', -1, 0, false}, {'x', 0, 0, false}, {256 + 'c', 0, 0, false}, {-1, 0, 0, false}, {'c', 99, 0, false}} {
		if at, ok := w.Find(test.b, test.from); at != test.at || ok != test.ok {
			t.Error(test, at)
		}
	}
	if w.Close() != api.OK || !w.Closed() || w.Close() != api.ErrState || w.Feed("") != api.ErrState {
		t.Error("Close")
	}
	if s, err := w.Take(1); s != "c" || err != api.OK {
		t.Error(s)
	}
	var none *Window
	if _, err := none.Take(0); err != api.ErrState || none.Feed("") != api.ErrState || none.Close() != api.ErrState || none.Len()+none.Offset()+none.Free() != 0 || none.Closed() {
		t.Error("nil")
	}
	if _, ok := none.At(0); ok {
		t.Error("nil")
	}
	if _, ok := none.Find(0, 0); ok {
		t.Error("nil")
	}
}

// P31.6
func TestRandom(t *testing.T) {
	r := rand.New(rand.NewSource(1))
	w, _ := New(50)
	fed, taken := "", ""
	for range 3000 {
		s := strings.Repeat(string(rune('a'+r.Intn(26))), r.Intn(20))
		if err := w.Feed(s); err == api.OK {
			fed += s
		} else if w.Free() >= len(s) {
			t.Fatal("Free")
		}
		n := r.Intn(20)
		if x, err := w.Take(n); err == api.OK {
			taken += x
		} else if n <= w.Len() {
			t.Fatal("Take")
		}
		if w.Len() > 50 || w.Len()+w.Offset() != len(fed) || fed[:w.Offset()] != taken || cap(w.buffer) > 1000 {
			t.Fatal(w.Len(), w.Offset())
		}
		for i := range w.Len() {
			if b, ok := w.At(i); !ok || byte(b) != fed[w.Offset()+i] {
				t.Fatal("At")
			}
		}
	}
}
