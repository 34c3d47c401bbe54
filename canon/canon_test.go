package canon

import (
	"bytes"
	"hash/fnv"
	"math/rand"
	"strings"
	"testing"

	"datakit/api"
	"datakit/decimal"
	"datakit/value"
)

func num(s string) api.Value {
	d, _ := decimal.Parse(s)
	return value.Num(d)
}

func fields(kv ...any) api.Value {
	v := api.Value{Kind: api.VMap}
	for i := 0; i < len(kv); i += 2 {
		v.Fields = append(v.Fields, api.Field{Key: kv[i].(string), Val: kv[i+1].(api.Value)})
	}
	return v
}

func nested(depth int) []byte {
	return append(bytes.Repeat([]byte{6, 1}, depth-1), 0)
}

// P10.1, P10.4
func TestEncodings(t *testing.T) {
	instant := value.Time(api.Time{Kind: 4, Day: 300, Nano: 1, Offset: -1})
	for _, c := range []struct {
		v     api.Value
		bytes string
		text  string
	}{
		{value.Null(), "\x00", "null"}, {value.Bool(true), "\x01\x01", "true"}, {value.Bool(false), "\x01\x00", "false"}, {num("1.5"), "\x02\x01\x01\x0215", "1.5"}, {num("0"), "\x02\x00", "0"}, {num("-2e64"), "\x02\x02\x80\x01\x012", "-2e64"}, {value.Text("a"), "\x04\x01a", `"a"`},
		{instant, "\x03\x04\xac\x02\x01\x01", `t"0001-10-28T00:00:00.000000001-00:01"`}, {value.Bytes([]byte{1, 2}), "\x05\x02\x01\x02", `b"AQI="`}, {value.List(value.Null(), value.List()), "\x06\x02\x00\x06\x00", "[null,[]]"},
		{fields("b", value.Int(1), "a", value.Null()), "\x07\x02\x01a\x00\x01b\x02\x01\x00\x011", `{"a":null,"b":1}`}, {value.Text("\"\\\b\f\n\r\t\x01\x1f\x7f/é"), "\x04\x0d\"\\\b\f\n\r\t\x01\x1f\x7f/é", `"\"\\\b\f\n\r\t\u0001\u001f` + "\x7f" + `/é"`}, {fields("\n", value.Null()), "\x07\x01\x01\n\x00", `{"\n":null}`}} {
		b, e := Encode(c.v)
		if string(b) != c.bytes || e != api.OK || Size(c.v) != len(b) {
			t.Errorf("Encode %s: %v, %v", c.text, b, e)
		}
		if s, e := Text(c.v); s != c.text || e != api.OK {
			t.Errorf("Text: %s, %v, want %s", s, e, c.text)
		}
		if v, n, e := Decode(append(b, 9, 9)); !value.Same(v, value.Sorted(c.v)) || n != len(b) || e != api.OK {
			t.Errorf("Decode %s: %v, %d, %v", c.text, v, n, e)
		}
		if v, e := Read(c.text); !value.Same(v, value.Sorted(c.v)) || e != api.OK {
			t.Errorf("Read %s: %v, %v", c.text, v, e)
		}
		for cut := range len(b) {
			if v, n, e := Decode(b[:cut]); !value.Same(v, api.Value{}) || n != 0 || e != api.ErrTruncated {
				t.Errorf("Decode of a beginning of %s: %v", c.text, e)
			}
		}
	}
	bad := value.List(value.Text("\xff"))
	if b, e := Encode(bad); b != nil || e != api.ErrText || Size(bad) != 0 {
		t.Error("Encode of an invalid value")
	}
	if s, e := Text(bad); s != "" || e != api.ErrText {
		t.Error("Text of an invalid value")
	}
}

// P10.2
func TestDecodeErrors(t *testing.T) {
	long := func(prefix string, n int) []byte { return append([]byte(prefix), bytes.Repeat([]byte{'1'}, n)...) }
	for i, c := range []struct {
		b []byte
		e api.Errno
	}{
		{nil, 4}, {[]byte{4, 2, 97}, 4}, {[]byte{1, 2}, 3}, {[]byte{4, 129, 0}, 3}, {[]byte{8}, 3}, {[]byte{255}, 3}, {[]byte{2, 3}, 3}, {[]byte{4, 128}, 4},
		{[]byte{4, 255, 255, 255, 255, 255, 255, 255, 255, 128}, 3}, {[]byte{4, 255, 255, 255, 255, 255, 255, 255, 255, 127}, 4}, {[]byte{6, 255, 255, 255, 255, 255, 255, 255, 255, 127, 1, 2}, 3}, {[]byte{6, 255, 255, 255, 255, 255, 255, 255, 255, 127}, 4},
		{nested(api.MaxDepth), 0}, {nested(api.MaxDepth + 1), 9}, {nested(49)[:96], 9}, {append([]byte{6, 2}, append(nested(48), 9)...), 9},
		{[]byte{2, 1, 0, 2, '1', '0'}, 2}, {[]byte{2, 1, 0, 0}, 3}, {[]byte{2, 2, 0, 0}, 2}, {[]byte{2, 1, 0, 1, 'x'}, 2}, {long("\x02\x01\x00\x79", 121), 2}, {[]byte{3, 9, 0, 0, 0}, 2}, {[]byte{3, 1, 0, 1, 0}, 2},
		{[]byte{4, 1, 255}, 5}, {[]byte{7, 1, 1, 255, 0}, 5}, {[]byte{7, 2, 1, 'b', 0, 1, 'a', 0}, 3}, {[]byte{7, 2, 1, 'a', 0, 1, 'a', 0}, 8}, {[]byte{7, 1, 2, 'a'}, 4}, {append([]byte{6, 128, 128, 4}, make([]byte, 65536)...), 10}, {append([]byte{6, 128, 128, 8}, append(make([]byte, 131071), 9)...), 3}, {long("\x04\x81\x80\x04", 65537), 10}} {
		if v, n, e := Decode(c.b); e != c.e || e != api.OK && (n != 0 || !value.Same(v, api.Value{})) {
			t.Errorf("case %d: %v, want %v", i, e, c.e)
		}
	}
}

// P10.3
func TestDigest(t *testing.T) {
	v := fields("b", value.Int(1), "a", value.Text("x"))
	b, _ := Encode(v)
	h := fnv.New64a()
	h.Write(b)
	if d, e := Digest(v); d != h.Sum64() || e != api.OK {
		t.Errorf("Digest: %d, %v", d, e)
	}
	if d, e := Digest(value.Text("\xff")); d != 0 || e != api.ErrText {
		t.Error("Digest of an invalid value")
	}
}

// P10.5
func TestReadErrors(t *testing.T) {
	for _, s := range []string{"", " null", "nul", "nulls", "1.0", "01", "+1", "1e2", "t\"10:00:00.0\"", `t"x"`, `b"A"`, `b"AQI"`, `"`, `"\`, `"\x"`, `"\/"`, `"\u0041"`, `"\u000a"`, `"\u001F"`, "\"\n\"", `"a"b`, "[", "[1", "[1,", "[1,]", "[,]", "[1 ]", "[1]]", "{", `{"a"`, `{"a":`, `{"a":1`, `{"a":1,`, `{"a":1,}`, "{a:1}", `{"b":1,"a":2}`, `{"a":1,"a":2}`, "{,}", "true1", strings.Repeat("[", 49) + strings.Repeat("]", 49), strings.Repeat("[", 100000), "1e999", `"` + strings.Repeat("x", 65537) + `"`, "]", "[1}", `{"a":1]`} {
		if v, e := Read(s); e != api.ErrSyntax || !value.Same(v, api.Value{}) {
			t.Errorf("Read(%.20q): %v", s, e)
		}
	}
	if _, e := Read(strings.Repeat(" ", api.MaxInput) + "\xff"); e != api.ErrSize {
		t.Error("Read of a long text")
	}
	if _, e := Read("\"\xff\""); e != api.ErrText {
		t.Error("Read of an invalid text")
	}
	if v, e := Read(strings.Repeat("[", 48) + strings.Repeat("]", 48)); value.Depth(v) != 48 || e != api.OK {
		t.Error("Read of a deep value")
	}
}

func random(r *rand.Rand, depth int) api.Value {
	switch r.Intn(6) {
	case 0:
		return num([]string{"0", "-1", "1.5", "1e300", "-2.25e-9"}[r.Intn(5)])
	case 1:
		return value.Text([]string{"", "a", "\n\"", "é"}[r.Intn(4)])
	case 2:
		return value.Bytes([]byte{byte(r.Intn(256))})
	case 3:
		v := value.List()
		for range r.Intn(3) * min(depth, 1) {
			v.List = append(v.List, random(r, depth-1))
		}
		return v
	case 4:
		v := fields()
		for _, k := range r.Perm(3) {
			if r.Intn(2)*depth > 0 {
				v.Fields = append(v.Fields, api.Field{Key: string(rune('a' + k)), Val: random(r, depth-1)})
			}
		}
		return v
	}
	return value.Bool(r.Intn(2) == 0)
}

// P10.6
func TestUnique(t *testing.T) {
	r := rand.New(rand.NewSource(8))
	var all []api.Value
	for range 150 {
		all = append(all, random(r, 3))
	}
	for _, a := range all {
		ab, _ := Encode(a)
		at, _ := Text(a)
		if v, _, e := Decode(ab); !value.Same(v, value.Sorted(a)) || e != api.OK {
			t.Fatal("Decode")
		}
		if v, e := Read(at); !value.Same(v, value.Sorted(a)) || e != api.OK {
			t.Fatal("Read")
		}
		for _, b := range all {
			bb, _ := Encode(b)
			bt, _ := Text(b)
			if bytes.Equal(ab, bb) != value.Equal(a, b) || (at == bt) != value.Equal(a, b) {
				t.Fatalf("%s and %s", at, bt)
			}
		}
	}
	garbage := make([]byte, 6)
	for range 20000 {
		for i := range garbage {
			garbage[i] = byte(r.Intn(9))
		}
		if v, n, e := Decode(garbage); e == api.OK {
			if b, e := Encode(v); !bytes.Equal(b, garbage[:n]) || e != api.OK {
				t.Fatal("Decode accepts another form")
			}
		}
	}
}
