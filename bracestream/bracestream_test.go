package bracestream

import (
	"math/rand"
	"reflect"
	"strings"
	"testing"

	"datakit/api"
	"datakit/brace"
	"datakit/bracelex"
	"datakit/event"
	"datakit/limit"
)

// P32.1
func TestNew(t *testing.T) {
	for _, size := range []int{0, -1, api.MaxWindow + 1} {
		if r, err := New(limit.Usual(), size); r != nil || err != api.ErrArg {
			t.Error(err)
		}
	}
	if r, err := New(api.Limits{}, 9); r != nil || err != api.ErrArg {
		t.Error(err)
	}
	if list, at, err := Events(nil, api.Limits{}, 9); list != nil || at != 0 || err != api.ErrArg {
		t.Error(err)
	}
	var none *Reader
	if _, err := none.Feed(""); err != api.ErrState {
		t.Error(err)
	}
	if _, err := none.End(); err != api.ErrState || none.Held()+none.Depth()+none.Offset() != 0 {
		t.Error(err)
	}
}

func kinds(list []api.Event) string {
	var out strings.Builder
	for _, e := range list {
		switch e.Kind {
		case api.EvScalar:
			s, _ := brace.Inline(e.Val)
			out.WriteString(s)
		case api.EvKey:
			out.WriteString(e.Key + ":")
		default:
			out.WriteString([]string{"", "", "[", "]", "{", "}"}[e.Kind])
		}
		out.WriteByte(' ')
	}
	return strings.TrimSpace(out.String())
}

// P32.2, P32.3
func TestFeed(t *testing.T) {
	r, _ := New(limit.Usual(), 8)
	for _, step := range []struct {
		part, events string
		held, depth  int
	}{{"[1, 2", "[ 1", 2, 1}, {"3]", "23 ]", 0, 0}, {" // comment longer than the window", "", 0, 0}} {
		list, err := r.Feed(step.part)
		if err != api.OK || kinds(list) != step.events || r.Held() != step.held || r.Depth() != step.depth {
			t.Error(step, kinds(list), r.Held(), r.Depth())
		}
	}
	if r.Offset() != len("[1, 23] // comment longer than the window") {
		t.Error(r.Offset())
	}
	if list, err := r.End(); err != api.OK || len(list) != 0 {
		t.Error(list, err)
	}
	if _, err := r.Feed(""); err != api.ErrState {
		t.Error(err)
	}
	if _, err := r.End(); err != api.ErrState {
		t.Error(err)
	}
	r, _ = New(limit.Usual(), 20)
	for _, step := range [][2]string{{"{", "{"}, {"a", ""}, {":", "a:"}, {" t", ""}, {"\"10:00", ""}, {":00\"", "t\"10:00:00\""}, {",\"b", ""}, {"\"", "b:"}, {":[tru", "["}, {"e,", "true"}, {"/", ""}, {"*", ""}, {"*/", ""}, {"-1", ""}, {"]", "-1 ]"}, {"}", "}"}, {"\r", ""}, {"\n", ""}} {
		list, err := r.Feed(step[0])
		if err != api.OK || kinds(list) != step[1] {
			t.Error(step, kinds(list))
		}
	}
	if _, err := r.End(); err != api.OK {
		t.Error(err)
	}
	r, _ = New(limit.Usual(), 20)
	r.Feed("12")
	if list, err := r.End(); err != api.OK || kinds(list) != "12" || r.Held() != 0 {
		t.Error(list, err)
	}
	r, _ = New(limit.Usual(), 20)
	if list, err := r.Feed("[1 2"); err != api.OK || kinds(list) != "[ 1" {
		t.Error(list)
	}
	if list, err := r.Feed(" , 3]"); err != api.OK || len(list) != 0 {
		t.Error(list)
	}
	if list, err := r.End(); err != api.ErrSyntax || list != nil || r.Depth() != 0 {
		t.Error(list, err)
	}
	if _, err := r.Feed(""); err != api.ErrState {
		t.Error(err)
	}
}

// P32.2, P32.4
func TestErrors(t *testing.T) {
	small := limit.Usual()
	small.Bytes = 4
	for _, test := range []struct {
		src    string
		window int
		at     int
		err    api.Errno
	}{
		{"[\"ab\"]", 3, 1, api.ErrMemory}, {"[\"ab\"]", 4, 0, 0}, {"[1 abcd]", 4, 3, api.ErrSyntax}, {"[1 abcd]", 3, 3, api.ErrMemory}, {"[1 2 abcd]", 4, 3, api.ErrSyntax}, {"[1 2 abcd]", 3, 3, api.ErrSyntax}, {"[1,", 3, 3, api.ErrTruncated}, {"[\"\\q\"]", 3, 1, api.ErrSyntax}, {"[\"\\q\"]", 2, 1, api.ErrMemory}, {"[\"abcd", 4, 1, api.ErrMemory}, {"[\"abc", 4, 5, api.ErrTruncated}, {"[t\"\"", 2, 1, api.ErrMemory}, {"[t\"\"]", 3, 1, api.ErrSyntax}, {"t\"", 1, 0, api.ErrMemory}, {"[\"\xff", 9, 2, api.ErrText}, {"[1 2 \xff", 9, 5, api.ErrText}, {"[1 2 \xc3", 9, 5, api.ErrText}, {"[abcd \xff", 1, 6, api.ErrText}, {"\"\\é\"", 3, 0, api.ErrSyntax}, {"\"\\é\"", 2, 0, api.ErrMemory}, {"\"é\"", 3, 0, api.ErrMemory}, {"\"é\"", 4, 0, 0}, {"/* abcdefghi", 2, 12, api.ErrTruncated}, {"/", 2, 1, api.ErrTruncated}, {"1\r", 2, 2, api.ErrTruncated}, {"1\r ", 2, 1, api.ErrSyntax}, {"1 / 2", 2, 2, api.ErrSyntax}, {"-", 2, 1, api.ErrTruncated}, {"- ", 2, 0, api.ErrSyntax}, {"{a: 1, a: 2}", 9, 7, api.ErrExists}, {"", 1, 0, api.ErrTruncated}, {"1e999", 9, 0, api.ErrRange},
	} {
		list, at, err := Events([]string{test.src}, limit.Usual(), test.window)
		if at != test.at || err != test.err || err != api.OK && list != nil {
			t.Errorf("Events(%q, %d): %v at %d", test.src, test.window, err, at)
		}
	}
	if _, at, err := Events([]string{"]]", "\xff", "]]"}, small, 1); at != 0 || err != api.ErrSize {
		t.Error(at, err)
	}
	if _, _, err := Events([]string{"[1", "2]"}, small, 2); err != api.OK {
		t.Error(err)
	}
}

// expected is the error of a source, as the chapter defines it.
func expected(src string, l api.Limits, window int) (int, api.Errno) {
	_, at, err := brace.Read(src, l)
	if err == api.ErrArg || len(src) > l.Bytes || err == api.ErrText && !validText(src) {
		return at, err
	}
	for i := 0; i < len(src); {
		token, e := bracelex.Next(src, i)
		if extent(src, i) > window {
			if err == api.OK || at >= i {
				return i, api.ErrMemory
			}
			return at, err
		}
		if e != api.OK {
			break
		}
		i += len(token.Text)
	}
	return at, err
}

func validText(s string) bool { return strings.ToValidUTF8(s, "") == s }

func extent(src string, at int) int {
	c := src[at]
	n := at
	if c == '"' || (c == 't' || c == 'b') && strings.HasPrefix(src[at+1:], "\"") {
		for n = at + 2; n < len(src); n++ {
			if _, err := bracelex.Next(src[:n], at); err != api.ErrTruncated {
				return n - at
			}
		}
		if _, err := bracelex.Next(src, at); err != api.ErrTruncated {
			return n - at
		}
		return len(src) - at
	}
	for n < len(src) && wordByte(src[n]) {
		n++
	}
	return n - at
}

// P32.5, W3
func TestParts(t *testing.T) {
	r := rand.New(rand.NewSource(1))
	pieces := []string{"[", "]", "{", "}", ",", ":", "1", "-2.5", "\"ab\"", "\"\\n\"", "a", "true", " ", "\n", "// x\n", "/* y */", "t\"10:00:00\"", "b\"AA==\"", "[1, 2]", "{a: 1, b: [2]}", "\"\\q\"", "\"", "null", "abcdef", "\r\n", "\r", "/"}
	good := 0
	for range 30000 {
		src := ""
		for range 1 + r.Intn(9) {
			src += pieces[r.Intn(len(pieces))]
		}
		if r.Intn(2) == 0 {
			src = "[" + src + "]"
		}
		l := limit.Usual()
		l.Depth, l.Nodes = 1+r.Intn(4), 1+r.Intn(8)
		if r.Intn(20) == 0 {
			l.Bytes = 1 + r.Intn(10)
		}
		window := 1 + r.Intn(8)
		if r.Intn(2) == 0 {
			window = 100
		}
		var parts []string
		for rest := src; rest != ""; {
			n := 1 + r.Intn(len(rest))
			parts = append(parts, rest[:n])
			rest = rest[n:]
		}
		at, err := expected(src, l, window)
		list, gotAt, got := Events(parts, l, window)
		if got != err || gotAt != at {
			t.Fatalf("%q, window %d: %v at %d, not %v at %d", src, window, got, gotAt, err, at)
		}
		if err != api.OK {
			continue
		}
		good++
		v, _, _ := brace.Read(src, l)
		if !reflect.DeepEqual(list, event.Of(v)) {
			t.Fatalf("%q: %v", src, list)
		}
		reader, _ := New(l, window)
		for _, part := range parts {
			reader.Feed(part)
			if reader.Held() > window+reader.Depth() {
				t.Fatal("Held")
			}
		}
	}
	if good < 1000 {
		t.Error(good)
	}
}

// P32.3: bounded memory
func TestBounded(t *testing.T) {
	r, _ := New(limit.Usual(), 16)
	r.Feed("[")
	for range 60000 {
		if _, err := r.Feed("12345, /* a long comment */"[:15]); err != api.OK || r.Held() > 17 {
			t.Fatal(r.Held())
		}
		r.Feed(" x */")
	}
	r.Feed("]")
	if _, err := r.End(); err != api.ErrSize && err != api.ErrSyntax {
		t.Error(err)
	}
}
