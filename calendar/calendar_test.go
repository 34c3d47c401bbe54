package calendar

import (
	"math"
	"testing"
	"time"

	"datakit/api"
)

// P4.1
func TestLeapMonth(t *testing.T) {
	for year, want := range map[int]bool{2024: true, 1900: false, 2000: true, 2023: false, 0: false, -4: false, 10000: false, 4: true, math.MinInt: false} {
		if Leap(year) != want {
			t.Errorf("Leap(%d)", year)
		}
	}
	for _, c := range [][3]int{{2024, 2, 29}, {2023, 2, 28}, {2023, 12, 31}, {2023, 4, 30}, {2023, 0, 0}, {2023, 13, 0}, {0, 1, 0}, {10000, 1, 0}, {1, math.MaxInt, 0}} {
		if Month(c[0], c[1]) != c[2] {
			t.Errorf("Month(%v): %d", c, Month(c[0], c[1]))
		}
	}
}

// P4.2 to P4.5 and P4.7, against another implementation
func TestAllDays(t *testing.T) {
	day := time.Date(1, 1, 1, 0, 0, 0, 0, time.UTC)
	for n := range api.MaxDay + 1 {
		if n%13 != 0 && n < api.MaxDay-1000 && n > 1000 {
			day = day.AddDate(0, 0, 1)
			continue
		}
		y, m, d, e := Date(n)
		if y != day.Year() || m != int(day.Month()) || d != day.Day() || e != api.OK {
			t.Fatalf("Date(%d): %d-%d-%d", n, y, m, d)
		}
		if back, e := Day(y, m, d); back != n || e != api.OK {
			t.Fatalf("Day(%d, %d, %d): %d, %v", y, m, d, back, e)
		}
		if w, e := Weekday(n); w%7 != int(day.Weekday()) || w < 1 || e != api.OK {
			t.Fatalf("Weekday(%d): %d", n, w)
		}
		wantYear, wantWeek := day.ISOWeek()
		if year, week, e := Week(n); year != wantYear || week != wantWeek || e != api.OK {
			t.Fatalf("Week(%d): %d, %d", n, year, week)
		}
		day = day.AddDate(0, 0, 1)
	}
}

func TestNoDates(t *testing.T) {
	for _, c := range [][3]int{{2023, 2, 29}, {2023, 1, 0}, {2023, 1, 32}, {2023, 13, 1}, {0, 1, 1}, {10000, 1, 1}, {math.MaxInt, 1, 1}, {1, math.MinInt, 1}, {1, 1, math.MinInt}} {
		if n, e := Day(c[0], c[1], c[2]); n != 0 || e != api.ErrRange {
			t.Errorf("Day(%v): %d, %v", c, n, e)
		}
	}
	for _, n := range []int{-1, api.MaxDay + 1, math.MaxInt, math.MinInt} {
		if y, m, d, e := Date(n); y != 0 || m != 0 || d != 0 || e != api.ErrRange {
			t.Errorf("Date(%d)", n)
		}
		if w, e := Weekday(n); w != 0 || e != api.ErrRange {
			t.Errorf("Weekday(%d)", n)
		}
		if y, w, e := Week(n); y != 0 || w != 0 || e != api.ErrRange {
			t.Errorf("Week(%d)", n)
		}
		if r, e := AddMonths(n, 0); r != 0 || e != api.ErrRange {
			t.Errorf("AddMonths(%d)", n)
		}
	}
}

// P4.6 and the examples
func TestAddMonths(t *testing.T) {
	day := func(y, m, d int) int {
		n, e := Day(y, m, d)
		if e != api.OK {
			t.Fatalf("%d-%d-%d: %v", y, m, d, e)
		}
		return n
	}
	if day(2024, 2, 29) != 738944 || day(1, 1, 1) != 0 || day(9999, 12, 31) != api.MaxDay {
		t.Error("the numbers of dates")
	}
	if y, w, _ := Week(day(2021, 1, 3)); y != 2020 || w != 53 {
		t.Error("Week")
	}
	start := day(2024, 1, 31)
	for months, want := range map[int]int{0: start, 1: day(2024, 2, 29), 13: day(2025, 2, 28), -1: day(2023, 12, 31), -2: day(2023, 11, 30), -2023 * 12: day(1, 1, 31), 12*7975 + 11: day(9999, 12, 31)} {
		if n, e := AddMonths(start, months); n != want || e != api.OK {
			t.Errorf("AddMonths(%d): %d, %v", months, n, e)
		}
	}
	for _, months := range []int{-2023*12 - 1, 12*7975 + 12, math.MaxInt, math.MinInt} {
		if n, e := AddMonths(start, months); n != 0 || e != api.ErrRange {
			t.Errorf("AddMonths(%d): %d, %v", months, n, e)
		}
	}
}
