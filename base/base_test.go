package base

import (
	"bytes"
	"encoding/base64"
	"encoding/hex"
	"math"
	"math/rand"
	"slices"
	"strings"
	"testing"

	"datakit/api"
)

// P6.1
func TestHex(t *testing.T) {
	if Hex([]byte{0, 171}) != "00ab" || Hex(nil) != "" {
		t.Error("Hex")
	}
	for s, want := range map[string]api.Errno{"00ab": 0, "": 0, "0A": 3, "0a0": 4, "0": 4, "x": 3, "0ag": 3, "G0": 3} {
		if b, e := Unhex(s); e != want || e != api.OK && b != nil || e == api.OK && Hex(b) != s {
			t.Errorf("Unhex(%s): %v, %v", s, b, e)
		}
	}
}

// P6.2
func TestBase64(t *testing.T) {
	for _, c := range []struct {
		b           []byte
		short, long string
	}{{nil, "", ""}, {[]byte{1, 2}, "AQI", "AQI="}, {[]byte{255}, "/w", "/w=="}, {[]byte{1, 2, 3}, "AQID", "AQID"}, {[]byte("foobar"), "Zm9vYmFy", "Zm9vYmFy"}} {
		if Encode(c.b, false) != c.short || Encode(c.b, true) != c.long {
			t.Errorf("Encode(%v): %s, %s", c.b, Encode(c.b, false), Encode(c.b, true))
		}
	}
	for s, want := range map[string]api.Errno{"": 0, "AQI=": 0, "/w==": 0, "AQID": 0, "AQI": 4, "AQ": 4, "A": 4, "AQJ": 4, "AQ=": 4, "AQJ=": 3, "AQI==": 3, "=": 3, "A=": 3, "AQID=": 3, "AQI=A": 3, "/w=": 4, "/x=": 3, "/w=A": 3, "/w===": 3, "A*": 3, "AQ-_": 3, "AQ\n": 3, "Ag=": 4, "AQIDA": 4} {
		if b, e := Decode(s, true); e != want || e != api.OK && b != nil {
			t.Errorf("Decode(%q, true): %v, %v", s, b, e)
		}
	}
	for s, want := range map[string]api.Errno{"": 0, "AQI": 0, "/w": 0, "A": 4, "AQJ": 4, "AQI=": 3, "AR": 4, "AQJA": 0, "A*": 3, "=": 3} {
		if b, e := Decode(s, false); e != want || e != api.OK && b != nil {
			t.Errorf("Decode(%q, false): %v, %v", s, b, e)
		}
	}
}

// P6.3, P6.4
func TestFoldSize(t *testing.T) {
	for _, c := range []struct {
		s     string
		width int
		want  []string
	}{{"abcde", 2, []string{"ab", "cd", "e"}}, {"", 2, nil}, {"", 0, nil}, {"abc", 0, []string{"abc"}}, {"abc", -1, []string{"abc"}}, {"abc", math.MaxInt, []string{"abc"}}, {"abc", math.MinInt, []string{"abc"}}, {"ab", 1, []string{"a", "b"}}} {
		if got := Fold(c.s, c.width); !slices.Equal(got, c.want) {
			t.Errorf("Fold(%s, %d): %q", c.s, c.width, got)
		}
	}
	for n := range 50 {
		if Size(n, true) != len(Encode(make([]byte, n), true)) || Size(n, false) != len(Encode(make([]byte, n), false)) {
			t.Errorf("Size(%d)", n)
		}
	}
	for _, n := range []int{-1, api.MaxInput + 1, math.MaxInt, math.MinInt} {
		if Size(n, true) != 0 || Size(n, false) != 0 {
			t.Errorf("Size(%d)", n)
		}
	}
	if Size(api.MaxInput, false) == 0 {
		t.Error("Size(MaxInput)")
	}
}

// P6.5, against another implementation
func TestRoundTrip(t *testing.T) {
	rnd := rand.New(rand.NewSource(4))
	for range 300 {
		b := make([]byte, rnd.Intn(20))
		rnd.Read(b)
		if Hex(b) != hex.EncodeToString(b) || Encode(b, true) != base64.StdEncoding.EncodeToString(b) || Encode(b, false) != base64.RawStdEncoding.EncodeToString(b) {
			t.Fatalf("%v", b)
		}
		for _, pad := range []bool{false, true} {
			s := Encode(b, pad)
			if back, e := Decode(s, pad); !bytes.Equal(back, b) || e != api.OK {
				t.Fatalf("Decode(%s)", s)
			}
			for cut := range len(s) {
				back, e := Decode(s[:cut], pad)
				if e == api.OK && !bytes.HasPrefix(b, back) || e != api.OK && e != api.ErrTruncated {
					t.Fatalf("Decode(%s): %v", s[:cut], e)
				}
			}
		}
		if strings.Join(Fold(Hex(b), 7), "") != Hex(b) {
			t.Fatal("Fold")
		}
	}
}
