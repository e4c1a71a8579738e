package cal_test

import (
	"testing"
	"time"

	"qanat/api"
	"qanat/cal"
)

// P4.1: leap years, of all years and of none beside them.
func TestLeap(t *testing.T) {
	for year, want := range map[int]bool{1: false, 4: true, 100: false, 400: true, 1600: true, 1900: false, 1996: true, 2000: true, 2023: false, 2024: true, 9996: true, 9999: false} {
		if is, e := cal.Leap(year); e != api.OK || is != want {
			t.Errorf("Leap(%d) is %v, %v", year, is, e)
		}
	}
	for year := 1; year <= api.MaxYear; year++ {
		want := time.Date(year, time.December, 31, 0, 0, 0, 0, time.UTC).YearDay() == 366
		if is, e := cal.Leap(year); e != api.OK || is != want {
			t.Errorf("Leap(%d) is %v, %v", year, is, e)
		}
	}
	for _, year := range append(outside(1, api.MaxYear), -4, 10000, 12000) {
		if is, e := cal.Leap(year); e != api.ErrArg || is {
			t.Errorf("Leap(%d) is %v, %v", year, is, e)
		}
	}
}

// P4.1: the numbers of days of all months.
func TestDaysIn(t *testing.T) {
	for year := 1; year <= api.MaxYear; year++ {
		for month := 1; month <= 12; month++ {
			want := time.Date(year, time.Month(month+1), 0, 0, 0, 0, 0, time.UTC).Day()
			if n, e := cal.DaysIn(year, month); e != api.OK || n != want {
				t.Errorf("DaysIn(%d, %d) is %d, %v", year, month, n, e)
			}
		}
	}
	for _, year := range outside(1, api.MaxYear) {
		if n, e := cal.DaysIn(year, 1); e != api.ErrArg || n != 0 {
			t.Errorf("DaysIn(%d, 1) is %d, %v", year, n, e)
		}
	}
	for _, month := range outside(1, 12) {
		if n, e := cal.DaysIn(2000, month); e != api.ErrArg || n != 0 {
			t.Errorf("DaysIn(2000, %d) is %d, %v", month, n, e)
		}
	}
}

// P4.2, P4.8: each day has the date and the weekday of the library, and DayOf takes it back.
func TestAllDays(t *testing.T) {
	day := 0
	for year := 1; year <= api.MaxYear; year++ {
		for month := 1; month <= 12; month++ {
			length := time.Date(year, time.Month(month+1), 0, 0, 0, 0, 0, time.UTC).Day()
			for k := 1; k <= length; k++ {
				if y, m, d, e := cal.DateOf(day); e != api.OK || y != year || m != month || d != k {
					t.Fatalf("DateOf(%d) is %d, %d, %d, %v", day, y, m, d, e)
				}
				if n, e := cal.DayOf(year, month, k); e != api.OK || n != day {
					t.Fatalf("DayOf(%d, %d, %d) is %d, %v", year, month, k, n, e)
				}
				if w, e := cal.Weekday(day); e != api.OK || w != day%7 {
					t.Fatalf("Weekday(%d) is %d, %v", day, w, e)
				}
				day++
			}
		}
	}
	if day != api.MaxDay+1 {
		t.Errorf("the calendar has %d days", day)
	}
}

// P4.2: the dates that the document names.
func TestNamedDays(t *testing.T) {
	for _, c := range []struct{ day, year, month, dayOfMonth, weekday int }{
		{0, 1, 1, 1, 0}, {30, 1, 1, 31, 2}, {31, 1, 2, 1, 3}, {364, 1, 12, 31, 0}, {365, 2, 1, 1, 1}, {730178, 2000, 2, 29, 1}, {737790, 2021, 1, 1, 4}, {api.MaxDay, 9999, 12, 31, 4},
	} {
		if n := mustDay(t, c.year, c.month, c.dayOfMonth); n != c.day {
			t.Errorf("%v: DayOf is %d", c, n)
		}
		if y, m, d, e := cal.DateOf(c.day); e != api.OK || y != c.year || m != c.month || d != c.dayOfMonth {
			t.Errorf("%v: DateOf is %d, %d, %d, %v", c, y, m, d, e)
		}
		if w, e := cal.Weekday(c.day); e != api.OK || w != c.weekday {
			t.Errorf("%v: Weekday is %d, %v", c, w, e)
		}
	}
}

// P4.2: no other dates and no other days.
func TestNoDays(t *testing.T) {
	check := func(year, month, day int) {
		if n, e := cal.DayOf(year, month, day); e != api.ErrArg || n != 0 {
			t.Errorf("DayOf(%d, %d, %d) is %d, %v", year, month, day, n, e)
		}
	}
	for _, year := range outside(1, api.MaxYear) {
		check(year, 1, 1)
	}
	for _, month := range outside(1, 12) {
		check(2000, month, 1)
	}
	for month := 1; month <= 12; month++ {
		for _, year := range []int{1, 1900, 2000, 2023, 2024, 9999} {
			length, _ := cal.DaysIn(year, month)
			for _, day := range outside(1, length) {
				check(year, month, day)
			}
		}
	}
	for _, day := range outside(0, api.MaxDay) {
		if y, m, d, e := cal.DateOf(day); e != api.ErrArg || y != 0 || m != 0 || d != 0 {
			t.Errorf("DateOf(%d) is %d, %d, %d, %v", day, y, m, d, e)
		}
		if w, e := cal.Weekday(day); e != api.ErrArg || w != 0 {
			t.Errorf("Weekday(%d) is %d, %v", day, w, e)
		}
		if y, w, d, e := cal.Week(day); e != api.ErrArg || y != 0 || w != 0 || d != 0 {
			t.Errorf("Week(%d) is %d, %d, %d, %v", day, y, w, d, e)
		}
	}
}

// P4.3, P4.9: the week dates of the library, and back.
func TestWeeks(t *testing.T) {
	for _, day := range someDays(1) {
		year, week := libraryDay(day).ISOWeek()
		y, w, d, e := cal.Week(day)
		if e != api.OK || y != year || w != week || d != day%7+1 {
			t.Fatalf("Week(%d) is %d, %d, %d, %v", day, y, w, d, e)
		}
		if n, e := cal.WeekDay(y, w, d); e != api.OK || n != day {
			t.Fatalf("WeekDay(%d, %d, %d) is %d, %v", y, w, d, n, e)
		}
	}
}

// P4.3: week 53 of each year, and the end of the calendar.
func TestWeek53(t *testing.T) {
	for year := 1; year <= api.MaxYear; year++ {
		_, last := time.Date(year, time.December, 28, 0, 0, 0, 0, time.UTC).ISOWeek()
		n, e := cal.WeekDay(year, 53, 4)
		if last == 52 && (e != api.ErrRange || n != 0) {
			t.Errorf("WeekDay(%d, 53, 4) is %d, %v", year, n, e)
		}
		if last == 53 && (e != api.OK || n%7 != 3) {
			t.Errorf("WeekDay(%d, 53, 4) is %d, %v", year, n, e)
		}
	}
	for _, c := range []struct {
		year, week, weekday, day int
		e                        api.Errno
	}{
		{1, 1, 1, 0, api.OK}, {2000, 9, 2, 730178, api.OK}, {2020, 53, 5, 737790, api.OK}, {2020, 53, 7, 737792, api.OK}, {2021, 1, 1, 737793, api.OK}, {2018, 1, 1, 736694, api.OK},
		{2021, 53, 1, 0, api.ErrRange}, {2021, 53, 7, 0, api.ErrRange}, {9999, 52, 5, api.MaxDay, api.OK}, {9999, 52, 6, 0, api.ErrRange}, {9999, 52, 7, 0, api.ErrRange}, {9999, 53, 1, 0, api.ErrRange},
	} {
		if n, e := cal.WeekDay(c.year, c.week, c.weekday); e != c.e || n != c.day {
			t.Errorf("%v: WeekDay is %d, %v", c, n, e)
		}
	}
}

// P4.3: ErrArg comes before ErrRange.
func TestNoWeeks(t *testing.T) {
	check := func(year, week, weekday int) {
		if n, e := cal.WeekDay(year, week, weekday); e != api.ErrArg || n != 0 {
			t.Errorf("WeekDay(%d, %d, %d) is %d, %v", year, week, weekday, n, e)
		}
	}
	for _, year := range outside(1, api.MaxYear) {
		check(year, 1, 1)
	}
	for _, week := range outside(1, 53) {
		check(2020, week, 1)
		check(9999, week, 7)
	}
	for _, weekday := range outside(1, 7) {
		check(2020, 1, weekday)
		check(2021, 53, weekday)
		check(9999, 52, weekday)
	}
}
