package delimstream

import (
	"math/rand"
	"reflect"
	"slices"
	"strings"
	"testing"

	"datakit/api"
	"datakit/brace"
	"datakit/delim"
	"datakit/event"
	"datakit/grid"
	"datakit/limit"
)

var bare = api.Dialect{Sep: ',', Quote: '"', Typed: true}

// P33.1
func TestNew(t *testing.T) {
	for _, size := range []int{0, -1, api.MaxWindow + 1} {
		if r, err := New(bare, limit.Usual(), size); r != nil || err != api.ErrArg {
			t.Error(err)
		}
	}
	if r, err := New(bare, api.Limits{}, 9); r != nil || err != api.ErrArg {
		t.Error(err)
	}
	if list, at, err := Events(nil, api.Dialect{}, limit.Usual(), 9); list != nil || at != 0 || err != api.ErrArg {
		t.Error(err)
	}
	var none *Reader
	if _, err := none.Feed(""); err != api.ErrState {
		t.Error(err)
	}
	if _, err := none.End(); err != api.ErrState || none.Held()+none.Offset()+len(none.Columns()) != 0 {
		t.Error(err)
	}
}

func kinds(list []api.Event) string {
	var out strings.Builder
	for _, e := range list {
		switch e.Kind {
		case api.EvScalar:
			s, _ := brace.Inline(e.Val)
			out.WriteString(s)
		case api.EvKey:
			out.WriteString(e.Key + ":")
		default:
			out.WriteString([]string{"", "", "[", "]", "{", "}"}[e.Kind])
		}
		out.WriteByte(' ')
	}
	return strings.TrimSpace(out.String())
}

// P33.2 to P33.4
func TestFeed(t *testing.T) {
	for _, test := range []struct {
		d     api.Dialect
		steps [][3]string // a part, the events, the columns
		end   string
	}{
		{delim.Usual(), [][3]string{{"a,b\n", "[", "a b"}, {"1,", "{ a: 1", "a b"}, {"x", "", "a b"}}, "b: \"x\" } ]"},
		{delim.Usual(), [][3]string{{"", "[", ""}, {"", "", ""}, {"a", "", ""}, {"\r", "", ""}, {"\n", "", "a"}, {"\"x\"", "", "a"}, {"\"", "", "a"}, {"y\"", "", "a"}, {"\r", "{ a: \"x\\\"y\"", "a"}, {"\n", "}", "a"}}, "]"},
		{bare, [][3]string{{"1", "[", ""}, {",", "[ 1", ""}, {"\n", "null ]", ""}, {",", "[ null", ""}}, "null ] ]"},
		{bare, nil, "[ ]"}, {delim.Usual(), nil, "[ ]"},
	} {
		r, _ := New(test.d, limit.Usual(), 8)
		for _, step := range test.steps {
			list, err := r.Feed(step[0])
			if err != api.OK || kinds(list) != step[1] || !slices.Equal(r.Columns(), strings.Fields(step[2])) || r.Held() > 8 {
				t.Errorf("%q: %s, %q", step[0], kinds(list), r.Columns())
			}
		}
		if list, err := r.End(); err != api.OK || kinds(list) != test.end || r.Held() != 0 {
			t.Error(kinds(list), err)
		}
		if _, err := r.End(); err != api.ErrState {
			t.Error(err)
		}
		if _, err := r.Feed(""); err != api.ErrState {
			t.Error(err)
		}
	}
	r, _ := New(delim.Usual(), limit.Usual(), 8)
	r.Feed("a,b")
	if len(r.Columns()) != 0 || r.Offset() != 3 {
		t.Error(r.Columns())
	}
	r.End()
	if got := r.Columns(); !slices.Equal(got, []string{"a", "b"}) {
		t.Error(got)
	}
}

// P33.2, P33.5
func TestErrors(t *testing.T) {
	for _, test := range []struct {
		src    string
		window int
		at     int
		err    api.Errno
	}{
		{"a,\"bc\"", 3, 2, api.ErrMemory}, {"a,\"bc\"", 4, 0, 0}, {"a,b\n1,2,3456", 4, 8, api.ErrSize}, {"a,b\n1,2,3456", 3, 8, api.ErrMemory}, {"a\"", 9, 1, api.ErrSyntax}, {"\"a", 9, 2, api.ErrTruncated}, {"\"a", 1, 0, api.ErrMemory}, {"\"a\"b", 9, 3, api.ErrSyntax}, {"a\r", 9, 2, api.ErrTruncated}, {"a\rb", 9, 1, api.ErrSyntax}, {"a,b\n1\r\n", 9, 5, api.ErrSize}, {"a,b\n1", 9, 5, api.ErrSize}, {"a,a", 9, 2, api.ErrExists}, {"a\n\"\xff", 9, 3, api.ErrText}, {"a\"\xff", 9, 2, api.ErrText}, {"a\xc3", 9, 1, api.ErrText}, {"abcd,\xff", 2, 5, api.ErrText}, {"a\"bcdef", 2, 1, api.ErrSyntax}, {"a,b\n1,2,3\"", 9, 8, api.ErrSize}, {"a,b\n1,2,\"3", 9, 8, api.ErrSize}, {"a,b\n1,2,\"34", 2, 8, api.ErrMemory}, {"a,b\n1,2,3\r", 9, 8, api.ErrSize},
	} {
		list, at, err := Events([]string{test.src}, delim.Usual(), limit.Usual(), test.window)
		if at != test.at || err != test.err || err != api.OK && list != nil {
			t.Errorf("Events(%q, %d): %v at %d", test.src, test.window, err, at)
		}
	}
	small := limit.Usual()
	small.Bytes = 4
	if _, at, err := Events([]string{"\"\"x", "\xff", "]]"}, bare, small, 1); at != 0 || err != api.ErrSize {
		t.Error(at, err)
	}
	r, _ := New(bare, limit.Usual(), 9)
	r.Feed("1,2\n3\n4,5\n")
	if list, err := r.End(); err != api.ErrSize || list != nil {
		t.Error(err)
	}
	if _, err := r.Feed(""); err != api.ErrState {
		t.Error(err)
	}
}

// expected is the error of a source, as the chapter defines it.
func expected(src string, d api.Dialect, l api.Limits, window int) (int, api.Errno) {
	_, at, err := grid.Read(src, d, l)
	if len(src) > l.Bytes || err == api.ErrArg || err == api.ErrText {
		return at, err
	}
	for i := 0; ; {
		n, next := i, false
		if n < len(src) && src[n] == d.Quote {
			for n++; n < len(src); n++ {
				if src[n] != d.Quote {
					continue
				}
				n++
				if n == len(src) || src[n] != d.Quote {
					next = true
					break
				}
			}
		} else {
			for n < len(src) && !strings.ContainsRune(",\"\r\n", rune(src[n])) {
				n++
			}
			next = n == len(src) || src[n] != d.Quote
		}
		if n-i > window {
			if err == api.OK || at >= i {
				return i, api.ErrMemory
			}
			return at, err
		}
		switch {
		case !next || n == len(src):
			return at, err
		case src[n] == ',':
			i = n + 1
			continue
		case src[n] == '\n':
			i = n + 1
		case strings.HasPrefix(src[n:], "\r\n"):
			i = n + 2
		default:
			return at, err
		}
		if i == len(src) {
			return at, err
		}
	}
}

// P33.6, W3
func TestParts(t *testing.T) {
	r := rand.New(rand.NewSource(1))
	pieces := []string{"a", "bcd", ",", "\"", "\n", "\r\n", "\"x\"\"y\"", "é", "1", "x,y\n", "1,2\n", "\r", "true"}
	good := 0
	for range 30000 {
		src := ""
		for range r.Intn(9) {
			src += pieces[r.Intn(len(pieces))]
		}
		d := bare
		d.Header = r.Intn(2) == 0
		l := limit.Usual()
		if r.Intn(3) == 0 {
			l.Depth, l.Nodes = 1+r.Intn(3), 1+r.Intn(6)
		}
		if r.Intn(20) == 0 {
			l.Bytes = 1 + r.Intn(10)
		}
		window := 1 + r.Intn(5)
		if r.Intn(2) == 0 {
			window = 100
		}
		var parts []string
		for rest := src; rest != ""; {
			n := 1 + r.Intn(len(rest))
			parts = append(parts, rest[:n])
			rest = rest[n:]
		}
		at, err := expected(src, d, l, window)
		list, gotAt, got := Events(parts, d, l, window)
		if got != err || gotAt != at {
			t.Fatalf("%q, window %d, %v %v: %v at %d, not %v at %d", src, window, d, l, got, gotAt, err, at)
		}
		if err != api.OK {
			continue
		}
		good++
		v, _, _ := grid.Read(src, d, l)
		if !reflect.DeepEqual(list, event.Of(v)) {
			t.Fatalf("%q: %v", src, list)
		}
	}
	if good < 1000 {
		t.Error(good)
	}
}
