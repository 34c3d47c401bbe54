package moment

import (
	"strconv"
	"strings"

	"datakit/api"
	"datakit/calendar"
)

// padded returns n with so many digits.
func padded(n, width int) string {
	s := strconv.Itoa(n)
	return strings.Repeat("0", max(0, width-len(s))) + s
}

// Text returns the text of a time.
func Text(t api.Time) string {
	if !Valid(t) {
		return ""
	}
	switch t.Kind {
	case api.TimeDate:
		return date(t.Day)
	case api.TimeClock:
		return clock(t.Nano)
	case api.TimeLocal:
		return date(t.Day) + "T" + clock(t.Nano)
	}
	return date(t.Day) + "T" + clock(t.Nano) + zone(t.Offset)
}

func clock(nano int) string {
	s := padded(nano/hour, 2) + ":" + padded(nano%hour/minute, 2) + ":" + padded(nano%minute/second, 2)
	if nano%second != 0 {
		s += "." + strings.TrimRight(padded(nano%second, 9), "0")
	}
	return s
}

func zone(offset int) string {
	if offset == 0 {
		return "Z"
	}
	sign := "+"
	if offset < 0 {
		sign = "-"
		offset = -offset
	}
	return sign + padded(offset/60, 2) + ":" + padded(offset%60, 2)
}

// fields are the numbers that the text of a time says, whether they make a time or not.
type fields struct {
	kind                 int
	year, month, day     int
	hour, minute, second int
	nano                 int
	east                 bool
	zoneHour, zoneMinute int
}

// Parse returns the time of a text.
func Parse(s string) (api.Time, api.Errno) {
	f, ok := split(s)
	if !ok {
		return api.Time{}, api.ErrSyntax
	}
	t := api.Time{Kind: f.kind}
	if f.kind != api.TimeClock {
		day, e := calendar.Day(f.year, f.month, f.day)
		if e != api.OK {
			return api.Time{}, api.ErrRange
		}
		t.Day = day
	}
	if f.hour > 23 || f.minute > 59 || f.second > 59 || f.zoneHour > 23 || f.zoneMinute > 59 {
		return api.Time{}, api.ErrRange
	}
	t.Nano = f.hour*hour + f.minute*minute + f.second*second + f.nano
	t.Offset = f.zoneHour*60 + f.zoneMinute
	if !f.east {
		t.Offset = -t.Offset
	}
	return t, api.OK
}

// matches reports whether s has the form of a pattern, in which 0 stands for a digit and every other byte for itself.
func matches(s, pattern string) bool {
	if len(s) != len(pattern) {
		return false
	}
	for i := range len(s) {
		digit := s[i] >= '0' && s[i] <= '9'
		if pattern[i] == '0' && !digit || pattern[i] != '0' && s[i] != pattern[i] {
			return false
		}
	}
	return true
}

// number returns the number of a string of a few digits.
func number(s string) int {
	n, _ := strconv.Atoi(s)
	return n
}

// split returns the fields of a string that has the form of a time.
func split(s string) (fields, bool) {
	var f fields
	if len(s) >= 10 && matches(s[:10], "0000-00-00") {
		f.year, f.month, f.day = number(s[:4]), number(s[5:7]), number(s[8:10])
		f.kind = api.TimeDate
		if len(s) == 10 {
			return f, true
		}
		if s[10] != 'T' && s[10] != 't' && s[10] != ' ' {
			return fields{}, false
		}
		s = s[11:]
	}
	rest, ok := f.clock(s)
	if !ok {
		return fields{}, false
	}
	switch {
	case rest == "" && f.kind == 0:
		f.kind = api.TimeClock
		return f, true
	case rest == "":
		f.kind = api.TimeLocal
		return f, true
	case f.kind == 0 || !f.zone(rest):
		return fields{}, false
	}
	f.kind = api.TimeInstant
	return f, true
}

// clock reads a time of day and returns what follows it.
func (f *fields) clock(s string) (string, bool) {
	if len(s) < 8 || !matches(s[:8], "00:00:00") {
		return "", false
	}
	f.hour, f.minute, f.second = number(s[:2]), number(s[3:5]), number(s[6:8])
	s = s[8:]
	if !strings.HasPrefix(s, ".") {
		return s, true
	}
	s = s[1:]
	n := len(s) - len(strings.TrimLeft(s, "0123456789"))
	if n < 1 || n > 9 {
		return "", false
	}
	f.nano = number(s[:n] + strings.Repeat("0", 9-n))
	return s[n:], true
}

// zone reads an offset.
func (f *fields) zone(s string) bool {
	if s == "Z" || s == "z" {
		return true
	}
	f.east = matches(s, "+00:00")
	if !f.east && !matches(s, "-00:00") {
		return false
	}
	f.zoneHour, f.zoneMinute = number(s[1:3]), number(s[4:6])
	return true
}
