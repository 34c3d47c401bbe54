package formats

import (
	"slices"
	"strings"
	"testing"
	"unicode/utf8"

	"datakit/api"
	"datakit/automaton"
	"datakit/base"
	"datakit/decimal"
	"datakit/moment"
	"datakit/regex"
)

// P17.1
func TestNames(t *testing.T) {
	want := strings.Fields("base64 date datetime hex instant integer ipv4 name number path time uuid")
	got := Names()
	if !slices.Equal(got, want) || !slices.IsSorted(got) {
		t.Error(got)
	}
	got[0] = "x"
	if Names()[0] != "base64" {
		t.Error("shared memory")
	}
	for _, name := range want {
		p, err := Pattern(name)
		if !Known(name) || err != api.OK || !regex.Valid(p) {
			t.Error(name)
		}
		if _, err := automaton.Build(p); err != api.OK {
			t.Error(name, err)
		}
	}
	for _, name := range []string{"", "Date", "email", "dates", "date "} {
		if p, err := Pattern(name); Known(name) || err != api.ErrNotFound || p.Args != nil || Check(name, "2024-02-30") {
			t.Error(name)
		}
	}
	if p, _ := Pattern("integer"); regex.Text(p) != "0|-?[1-9][0-9]*" {
		t.Error(regex.Text(p))
	}
}

// P17.2
func TestCheck(t *testing.T) {
	tests := []struct{ name, good, bad string }{
		{"base64", "|AAAA|AA==|AAA=|Az09+/==|AAAAAAA=", "A|AA|AAA|A===|AA=|====|AA==AA==|A-==|AAAA "},
		{"date", "2024-02-30|0000-01-01|9999-12-31", "2024-13-01|2024-00-01|2024-01-32|2024-01-00|24-01-01|2024-1-01|2024-02-30T"},
		{"datetime", "2024-02-30T23:59:59|2024-02-28T00:00:00.1|2024-02-28T00:00:00.123456789", "2024-02-28|2024-02-28 00:00:00|2024-02-28T24:00:00|2024-02-28T00:00:00.|2024-02-28T00:00:00.1234567890|2024-02-28T00:00:00Z"},
		{"hex", "00|0aff", "|0|000|0A|0g"},
		{"instant", "2024-02-30T23:59:59Z|2024-02-28T00:00:00.1+23:59|2024-02-28T00:00:00-00:00", "2024-02-28T00:00:00|2024-02-28T00:00:00+24:00|2024-02-28T00:00:00+1:00|2024-02-28T00:00:00z"},
		{"integer", "0|1|-1|-1234567890", "|-0|01|+1|1.0|1e3|-"},
		{"ipv4", "0.0.0.0|255.255.255.255|1.22.199.249", "1.2.3|1.2.3.4.5|256.1.1.1|01.1.1.1|1.1.1.|1.1.1.300"},
		{"name", "a|_|A0_z", "|0a|a-b|é"},
		{"number", "0|-0|1.50|-12.0e5|1E+07|1e-3", "|01|.5|1.|+1|1e|--1|1e5.0"},
		{"path", "/|/a/b|//|/a.b-c_d/0", "|a|a/b|/a b|/é"},
		{"time", "00:00:00|23:59:59.999", "24:00:00|23:60:00|23:59:60|1:00:00|00:00"},
		{"uuid", "01234567-89ab-cdef-0123-456789abcdef", "|01234567-89ab-cdef-0123-456789abcde|01234567-89AB-cdef-0123-456789abcdef|0123456789abcdef0123456789abcdef"},
	}
	for _, test := range tests {
		for _, s := range strings.Split(test.good, "|") {
			if !Check(test.name, s) {
				t.Errorf("Check(%q, %q) = false", test.name, s)
			}
			if !slices.Contains(Detect(s), test.name) {
				t.Errorf("Detect(%q) without %q", s, test.name)
			}
		}
		for _, s := range strings.Split(test.bad, "|") {
			if Check(test.name, s) {
				t.Errorf("Check(%q, %q) = true", test.name, s)
			}
			if slices.Contains(Detect(s), test.name) {
				t.Errorf("Detect(%q) with %q", s, test.name)
			}
		}
	}
	for s, want := range map[string]string{"12": "hex integer number", "a1": "hex name", "": "base64", "é": "", "0000": "base64 hex"} {
		if got := Detect(s); !slices.Equal(got, strings.Fields(want)) {
			t.Errorf("Detect(%q) = %q", s, got)
		}
	}
}

// texts are strings of bytes at which UTF-8 changes.
func texts(n int) []string {
	if n == 0 {
		return []string{""}
	}
	var list []string
	for _, s := range texts(n - 1) {
		for _, b := range []byte{0, 0x41, 0x7F, 0x80, 0x8F, 0x90, 0x9F, 0xA0, 0xBF, 0xC0, 0xC1, 0xC2, 0xDF, 0xE0, 0xE1, 0xEC, 0xED, 0xEE, 0xEF, 0xF0, 0xF1, 0xF3, 0xF4, 0xF5, 0xFF} {
			list = append(list, s+string([]byte{b}))
		}
	}
	return list
}

func accepts(m api.Machine, s string) bool {
	state := 0
	for i := range len(s) {
		for _, a := range m.States[state].Arcs {
			if a.Lo <= int(s[i]) && int(s[i]) <= a.Hi {
				state = a.Next
				break
			}
		}
	}
	return m.States[state].Accept
}

// P17.3, P17.4
func TestUtfLength(t *testing.T) {
	utf := Utf()
	if !automaton.Valid(utf) || len(utf.States) != 9 || !automaton.Equal(utf, automaton.Least(utf)) {
		t.Error(len(utf.States))
	}
	two, err := Length(2, 2)
	if err != api.OK {
		t.Error(err)
	}
	atLeast, _ := Length(2, -1)
	none, _ := Length(0, 0)
	upTo, _ := Length(0, 2)
	for n := range 5 {
		for _, s := range texts(n) {
			valid, c := utf8.ValidString(s), utf8.RuneCountInString(s)
			if accepts(utf, s) != valid || accepts(two, s) != (valid && c == 2) || accepts(atLeast, s) != (valid && c >= 2) || accepts(none, s) != (s == "") || accepts(upTo, s) != (valid && c <= 2) {
				t.Fatalf("%q", s)
			}
		}
	}
	if m, _ := Length(0, -1); !automaton.Equal(m, utf) {
		t.Error("Length(0, -1)")
	}
	if m, err := Length(100, 100); err != api.OK || !accepts(m, strings.Repeat("é", 100)) || accepts(m, strings.Repeat("é", 99)) || accepts(m, strings.Repeat("e", 101)) {
		t.Error(err)
	}
	if m, err := Length(100, -1); err != api.OK || accepts(m, strings.Repeat("é", 99)) || !accepts(m, strings.Repeat("e", 300)) {
		t.Error(err)
	}
	for _, test := range []struct {
		min, max int
		want     api.Errno
	}{{-1, 5, api.ErrArg}, {0, -2, api.ErrArg}, {5, 4, api.ErrArg}, {200, 150, api.ErrArg}, {101, -1, api.ErrLimit}, {101, 101, api.ErrLimit}, {0, 101, api.ErrLimit}, {-1, 101, api.ErrArg}, {100, 100, api.OK}, {1 << 62, -1, api.ErrLimit}} {
		m, err := Length(test.min, test.max)
		if err != test.want || err != api.OK && m.States != nil {
			t.Error(test, err)
		}
	}
}

// P17.5
func TestConsequences(t *testing.T) {
	for kind, name := range map[int]string{api.TimeDate: "date", api.TimeClock: "time", api.TimeLocal: "datetime", api.TimeInstant: "instant"} {
		x := api.Time{Kind: kind}
		if kind != api.TimeClock {
			x.Day = api.MaxDay
		}
		if kind != api.TimeDate {
			x.Nano = api.MaxNano
		}
		if kind == api.TimeInstant {
			x.Offset = -api.MaxOffset
		}
		if s := moment.Text(x); !Check(name, s) {
			t.Error(name, s)
		}
	}
	for _, d := range []api.Decimal{{}, decimal.FromInt(-7), {Digits: "15", Exp: -400}, {Neg: true, Digits: "15", Exp: 400}, {Digits: "15", Exp: -1}} {
		if s := decimal.Text(d); !Check("number", s) {
			t.Error(s)
		}
	}
	b := []byte{}
	for n := range 9 {
		if n > 0 && !Check("hex", base.Hex(b)) || !Check("base64", base.Encode(b, true)) {
			t.Error(b)
		}
		b = append(b, byte(251*n))
	}
}
