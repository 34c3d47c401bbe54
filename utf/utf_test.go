package utf

import (
	"math"
	"slices"
	"strings"
	"testing"

	"datakit/api"
)

// P3.1, P3.2
func TestDecode(t *testing.T) {
	for s, want := range map[string]bool{"": true, "aé€😀": true, "\xc0\x80": false, "\xed\xa0\x80": false, "\xf4\x90\x80\x80": false, "a\xff": false, "\xe2\x82": false, "\ufffd": true, "\x80": false} {
		if Valid(s) != want {
			t.Errorf("Valid(%q)", s)
		}
	}
	for _, c := range []struct {
		s           string
		at, r, size int
	}{{"€", 0, 8364, 3}, {"€", 1, 0, 0}, {"€", 3, 0, 0}, {"€", -1, 0, 0}, {"a", math.MaxInt, 0, 0}, {"\x00", 0, 0, 1}, {"\ufffd", 0, 0xfffd, 3}, {"\xff", 0, 0, 0}, {"a\xc3", 1, 0, 0}, {"😀", 0, 0x1f600, 4}} {
		if r, size := Decode(c.s, c.at); r != c.r || size != c.size {
			t.Errorf("Decode(%q, %d): %d, %d", c.s, c.at, r, size)
		}
	}
}

// P3.3, P3.11
func TestEncode(t *testing.T) {
	for _, r := range []int{0, 127, 128, 0x7ff, 0x800, 0xd7ff, 0xe000, 0xfffd, 0xffff, 0x10000, 0x10ffff} {
		s, e := Encode(r)
		if got, size := Decode("x"+s+"y", 1); got != r || size != len(s) || e != api.OK {
			t.Errorf("Encode(%x): %q, %v", r, s, e)
		}
	}
	if s, _ := Encode(0xe9); s != "\xc3\xa9" {
		t.Error("Encode of é")
	}
	for _, r := range []int{-1, 0xd800, 0xdfff, 0x110000, math.MaxInt, 1 << 32, math.MinInt} {
		if s, e := Encode(r); s != "" || e != api.ErrRange {
			t.Errorf("Encode(%x): %q, %v", r, s, e)
		}
	}
}

// P3.4, P3.5
func TestLenRunes(t *testing.T) {
	if n, e := Len("aé😀"); n != 3 || e != api.OK {
		t.Error("Len")
	}
	if n, e := Len("a\xff"); n != 0 || e != api.ErrText {
		t.Error("Len of an invalid string")
	}
	if got := slices.Collect(Runes("aé\xffb")); !slices.Equal(got, []int{97, 233}) {
		t.Errorf("Runes: %v", got)
	}
	for r := range Runes("ab") {
		if r != 'a' {
			t.Error("Runes goes on")
		}
		break
	}
}

// P3.6, P3.7
func TestSliceControl(t *testing.T) {
	for _, c := range []struct {
		s        string
		from, to int
		want     string
		e        api.Errno
	}{{"aé€b", 1, 3, "é€", 0}, {"aé", 2, 2, "", 0}, {"aé", 0, 3, "", api.ErrRange}, {"aé", -1, 1, "", api.ErrRange}, {"aé", 2, 1, "", api.ErrRange}, {"\xff", 5, 1, "", api.ErrText}} {
		if s, e := Slice(c.s, c.from, c.to); s != c.want || e != c.e {
			t.Errorf("Slice(%q, %d, %d): %q, %v", c.s, c.from, c.to, s, e)
		}
	}
	for r, want := range map[int]bool{-1: false, 0: true, 31: true, 32: false, 126: false, 127: true, 159: true, 160: false} {
		if Control(r) != want {
			t.Errorf("Control(%d)", r)
		}
	}
}

// P3.8, P3.9
func TestPositions(t *testing.T) {
	s := "aé\nb"
	for at, want := range map[int]api.Pos{0: {Line: 1, Col: 1}, 3: {Line: 1, Col: 3}, 4: {Line: 2, Col: 1}, 5: {Line: 2, Col: 2}} {
		if p, e := Position(s, at); p != want || e != api.OK {
			t.Errorf("Position(%d): %v, %v", at, p, e)
		}
		if o, e := Offset(s, want); o != at || e != api.OK {
			t.Errorf("Offset(%v): %v, %v", want, o, e)
		}
	}
	for _, at := range []int{2, -1, 6} {
		if p, e := Position(s, at); p != (api.Pos{}) || e != api.ErrRange {
			t.Errorf("Position(%d): %v, %v", at, p, e)
		}
	}
	for _, p := range []api.Pos{{Line: 1, Col: 4}, {Line: 0, Col: 1}, {Line: 1}, {Line: 3, Col: 1}, {Line: 2, Col: 3}, {Line: math.MaxInt, Col: 1}, {Line: 1, Col: math.MaxInt}} {
		if at, e := Offset(s, p); at != 0 || e != api.ErrRange {
			t.Errorf("Offset(%v): %v, %v", p, at, e)
		}
	}
	if p, e := Position("", 0); p != (api.Pos{Line: 1, Col: 1}) || e != api.OK {
		t.Error("Position in the empty string")
	}
	if o, e := Offset("a\n", api.Pos{Line: 2, Col: 1}); o != 2 || e != api.OK {
		t.Error("Offset behind the last line feed")
	}
	if _, e := Position("\xff", 9); e != api.ErrText {
		t.Error("Position in an invalid string")
	}
	if _, e := Offset("\xff", api.Pos{}); e != api.ErrText {
		t.Error("Offset in an invalid string")
	}
}

// P3.10, P3.11
func TestLines(t *testing.T) {
	for s, want := range map[string][]string{"": nil, "a\r\n\nb": {"a\r\n", "\n", "b"}, "\n": {"\n"}, "\xff\n": {"\xff\n"}} {
		got := Lines(s)
		if !slices.Equal(got, want) || strings.Join(got, "") != s {
			t.Errorf("Lines(%q): %q", s, got)
		}
	}
}
