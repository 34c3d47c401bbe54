package moment

import (
	"math"
	"math/rand"
	"testing"

	"datakit/api"
)

func at(t *testing.T, s string) api.Time {
	t.Helper()
	x, e := Parse(s)
	if e != api.OK || !Valid(x) {
		t.Fatalf("Parse(%s): %v", s, e)
	}
	return x
}

// P5.1
func TestValidText(t *testing.T) {
	for _, c := range []struct {
		t    api.Time
		want string
	}{
		{api.Time{Kind: 4, Day: 738944, Nano: 37800500000000, Offset: 120}, "2024-02-29T10:30:00.5+02:00"}, {api.Time{Kind: 1}, "0001-01-01"}, {api.Time{Kind: 2, Nano: api.MaxNano}, "23:59:59.999999999"},
		{api.Time{Kind: 3, Day: api.MaxDay, Nano: 1}, "9999-12-31T00:00:00.000000001"}, {api.Time{Kind: 4, Offset: -1439}, "0001-01-01T00:00:00-23:59"}, {api.Time{Kind: 4}, "0001-01-01T00:00:00Z"},
		{api.Time{}, ""}, {api.Time{Kind: 5}, ""}, {api.Time{Kind: -1}, ""}, {api.Time{Kind: 1, Nano: 1}, ""}, {api.Time{Kind: 2, Day: 1}, ""}, {api.Time{Kind: 3, Offset: 1}, ""}, {api.Time{Kind: 4, Offset: 1440}, ""}, {api.Time{Kind: 4, Offset: -1440}, ""},
		{api.Time{Kind: 1, Day: -1}, ""}, {api.Time{Kind: 1, Day: api.MaxDay + 1}, ""}, {api.Time{Kind: 2, Nano: -1}, ""}, {api.Time{Kind: 2, Nano: api.MaxNano + 1}, ""}} {
		if Text(c.t) != c.want || Valid(c.t) != (c.want != "") {
			t.Errorf("%v: %s", c.t, Text(c.t))
		}
	}
}

// P5.2
func TestParse(t *testing.T) {
	for s, want := range map[string]string{"2024-02-29 10:30:00.500+02:00": "2024-02-29T10:30:00.5+02:00", "2024-02-29t10:30:00z": "2024-02-29T10:30:00Z", "2024-02-29T10:30:00-00:00": "2024-02-29T10:30:00Z", "2024-02-29T10:30:00+00:00": "2024-02-29T10:30:00Z",
		"00:00:00.000000000": "00:00:00", "23:59:59.123456789": "23:59:59.123456789", "2024-02-29T10:30:00": "2024-02-29T10:30:00", "2024-02-29": "2024-02-29"} {
		if got := Text(at(t, s)); got != want {
			t.Errorf("Parse(%s): %s", s, got)
		}
	}
	for s, want := range map[string]api.Errno{"2024-02-30": 2, "24:00:00": 2, "10:00:60": 2, "10:60:00": 2, "0000-01-01": 2, "2024-13-01": 2, "2024-00-01": 2, "2024-01-00": 2, "2024-01-01T00:00:00+24:00": 2, "2024-01-01T00:00:00-00:60": 2,
		"": 3, "2024-2-29": 3, "10:30": 3, "10:30:00.0000000001": 3, "10:30:00.": 3, "10:30:00Z": 3, "2024-02-29T": 3, "2024-02-29  10:00:00": 3, "2024-02-29T10:00:00+0000": 3, "2024-02-29T10:00:00+1:00": 3, "2024-02-29T10:00:00ZZ": 3, "+2024-02-29": 3, "2024-02-29Z": 3, "2024-02-29T10:00:00Z ": 3, "2024-02-2९": 3, "2024-02-29x10:00:00": 3, "99999-01-01": 3} {
		if x, e := Parse(s); e != want || x != (api.Time{}) {
			t.Errorf("Parse(%q): %v", s, e)
		}
	}
}

// P5.3
func TestCmp(t *testing.T) {
	ordered := []string{"0001-01-01", "2024-02-29", "00:00:00", "10:00:00.5", "2024-02-29T10:00:00", "2024-03-01T00:00:00", "0001-01-01T00:00:00+23:59", "0001-01-01T00:00:00Z", "2024-02-29T08:30:00.5Z", "2024-02-29T10:30:00.5+02:00", "9999-12-31T23:59:59-23:59"}
	for i, a := range ordered {
		for j, b := range ordered {
			if Cmp(at(t, a), at(t, b)) != compare(i, j) {
				t.Errorf("Cmp(%s, %s)", a, b)
			}
		}
	}
	if !Equal(at(t, ordered[8]), at(t, ordered[9])) || Equal(at(t, "00:00:00"), at(t, "0001-01-01")) || Equal(at(t, ordered[0]), at(t, ordered[1])) {
		t.Error("Equal")
	}
}

// P5.4
func TestZone(t *testing.T) {
	x := at(t, "2024-02-29T10:30:00.5+02:00")
	if u, e := Utc(x); Text(u) != "2024-02-29T08:30:00.5Z" || e != api.OK {
		t.Errorf("Utc: %s, %v", Text(u), e)
	}
	if u, e := Zone(at(t, "2024-03-01T00:30:00Z"), -31); Text(u) != "2024-02-29T23:59:00-00:31" || e != api.OK {
		t.Errorf("Zone: %s, %v", Text(u), e)
	}
	for _, c := range []struct {
		t      api.Time
		offset int
		e      api.Errno
	}{{api.Time{Kind: 9}, 9999, api.ErrArg}, {at(t, "10:00:00"), 9999, api.ErrKind}, {x, 1440, api.ErrRange}, {x, math.MinInt, api.ErrRange}, {at(t, "0001-01-01T00:00:00Z"), -1, api.ErrRange}, {at(t, "9999-12-31T23:59:00Z"), 1, api.ErrRange}} {
		if u, e := Zone(c.t, c.offset); u != (api.Time{}) || e != c.e {
			t.Errorf("Zone(%v, %d): %v, %v", c.t, c.offset, u, e)
		}
	}
}

// P5.5
func TestShift(t *testing.T) {
	for _, c := range []struct {
		s           string
		days, nanos int
		want        string
		e           api.Errno
	}{{"2023-12-31T23:59:59", 0, second, "2024-01-01T00:00:00", 0}, {"23:59:59", 0, second, "", api.ErrRange}, {"00:00:00", 0, -1, "", api.ErrRange}, {"00:00:00", 0, api.MaxNano, "23:59:59.999999999", 0}, {"10:00:00", 1, 0, "", api.ErrKind}, {"2024-01-01", 0, 1, "", api.ErrKind},
		{"2024-01-01", -1, 0, "2023-12-31", 0}, {"0001-01-01", -1, 0, "", api.ErrRange}, {"9999-12-31", 1, 0, "", api.ErrRange}, {"0001-01-01T00:00:00+02:00", api.MaxDay, api.MaxNano, "9999-12-31T23:59:59.999999999+02:00", 0},
		{"2024-01-01T00:00:00", math.MaxInt, math.MaxInt, "", api.ErrRange}, {"2024-01-01T00:00:00", math.MinInt, math.MinInt, "", api.ErrRange}, {"2024-01-01T00:00:00", 0, math.MinInt, "1731-09-22T00:12:43.145224192", 0}, {"2024-01-01T00:00:00", 1, -2 * dayNanos, "2023-12-31T00:00:00", 0}} {
		if x, e := Shift(at(t, c.s), c.days, c.nanos); Text(x) != c.want || e != c.e {
			t.Errorf("Shift(%s): %s, %v", c.s, Text(x), e)
		}
	}
	if _, e := Shift(api.Time{}, 0, 0); e != api.ErrArg {
		t.Error("Shift of no time")
	}
}

// P5.6
func TestBetween(t *testing.T) {
	if d, n, e := Between(at(t, "10:00:00"), at(t, "09:00:00")); d != -1 || n != 82800000000000 || e != api.OK {
		t.Errorf("Between: %d, %d, %v", d, n, e)
	}
	if d, n, e := Between(at(t, "2024-01-01T00:00:00Z"), at(t, "2024-01-01T00:00:00-01:00")); d != 0 || n != hour || e != api.OK {
		t.Errorf("Between: %d, %d, %v", d, n, e)
	}
	if d, n, e := Between(at(t, "10:00:00"), at(t, "2024-01-01")); d != 0 || n != 0 || e != api.ErrKind {
		t.Error("Between of two kinds")
	}
	if _, _, e := Between(at(t, "10:00:00"), api.Time{}); e != api.ErrArg {
		t.Error("Between of no time")
	}
}

// P5.7
func TestConsequences(t *testing.T) {
	rnd := rand.New(rand.NewSource(3))
	for range 3000 {
		kind := 1 + rnd.Intn(4)
		a := api.Time{Kind: kind, Day: rnd.Intn(api.MaxDay + 1), Nano: rnd.Intn(api.MaxNano + 1), Offset: rnd.Intn(2*api.MaxOffset+1) - api.MaxOffset}
		b := api.Time{Kind: kind, Day: rnd.Intn(api.MaxDay + 1), Nano: rnd.Intn(api.MaxNano + 1), Offset: rnd.Intn(2*api.MaxOffset+1) - api.MaxOffset}
		for _, x := range []*api.Time{&a, &b} {
			if kind == 2 {
				x.Day = 0
			}
			if kind == 1 {
				x.Nano = 0
			}
			if kind != 4 {
				x.Offset = 0
			}
			if back, e := Parse(Text(*x)); back != *x || e != api.OK {
				t.Fatalf("Parse(%s)", Text(*x))
			}
		}
		if Cmp(a, b) != -Cmp(b, a) || (Cmp(a, b) == 0) != (a == b) {
			t.Fatal("Cmp")
		}
		days, nanos, e := Between(a, b)
		if kind == 2 || e != api.OK {
			continue
		}
		if c, e := Shift(a, days, nanos); e == api.OK && !Equal(c, b) || e != api.OK && e != api.ErrRange {
			t.Fatalf("%s to %s: %s", Text(a), Text(b), Text(c))
		}
	}
}
