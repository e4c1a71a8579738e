package cal_test

import (
	"math"
	"math/rand"
	"testing"
	"time"

	"qanat/api"
	"qanat/cal"
)

// The library's calendar is what the tests compare package cal with.

// libraryDay returns a day number as a date of the library, at midnight.
func libraryDay(day int) time.Time {
	return time.Date(1, time.January, 1+day, 0, 0, 0, 0, time.UTC)
}

// libraryTime returns a time of day as one of the library.
func libraryTime(micro int) time.Time {
	return libraryDay(0).Add(time.Duration(micro) * time.Microsecond)
}

// numberOf returns the day number of a date of the library.
func numberOf(d time.Time) int {
	return int((d.Unix() - libraryDay(0).Unix()) / (24 * 60 * 60))
}

// outside returns numbers that are not from low to high.
func outside(low, high int) []int {
	return []int{math.MinInt, math.MinInt + 1, low - 1000, low - 1, high + 1, high + 1000, math.MaxInt - 1, math.MaxInt}
}

// someDays returns the days around the turns of the calendar, and random ones.
func someDays(seed int64) []int {
	set := map[int]bool{}
	add := func(day int) {
		for k := day - 2; k <= day+2; k++ {
			if k >= 0 && k <= api.MaxDay {
				set[k] = true
			}
		}
	}
	for _, year := range []int{1, 2, 4, 5, 99, 100, 101, 199, 200, 399, 400, 401, 999, 1000, 1582, 1599, 1600, 1752, 1899, 1900, 1950, 1999, 2000, 2001, 2004, 2020, 2021, 2049, 2050, 2100, 9900, 9949, 9950, 9999} {
		for month := time.January; month <= time.December; month++ {
			add(numberOf(time.Date(year, month, 1, 0, 0, 0, 0, time.UTC)))
		}
	}
	add(api.MaxDay)
	r := rand.New(rand.NewSource(seed))
	for range 2000 {
		add(r.Intn(api.MaxDay + 1))
	}
	var list []int
	for day := range api.MaxDay + 1 {
		if set[day] {
			list = append(list, day)
		}
	}
	return list
}

// someTimes returns the times of day around the complete hours and some minutes, and random ones.
func someTimes(seed int64) []int {
	var list []int
	add := func(micro int) {
		for _, k := range []int{micro - 1000000, micro - 1, micro, micro + 1, micro + 999999, micro + 1000000, micro + 60000000} {
			if k >= 0 && k < api.DayMicro {
				list = append(list, k)
			}
		}
	}
	for hour := range 25 {
		add(hour * 3600000000)
	}
	r := rand.New(rand.NewSource(seed))
	for range 2000 {
		add(r.Intn(api.DayMicro))
	}
	return list
}

// mustDay returns the number of a date of the calendar.
func mustDay(t *testing.T, year, month, day int) int {
	t.Helper()
	n, e := cal.DayOf(year, month, day)
	if e != api.OK {
		t.Fatalf("DayOf(%d, %d, %d): error %v", year, month, day, e)
	}
	return n
}

// mustDate returns the format of a day.
func mustDate(t *testing.T, day int, option byte) string {
	t.Helper()
	s, e := cal.Date(day, option)
	if e != api.OK {
		t.Fatalf("Date(%d, %q): error %v", day, option, e)
	}
	return s
}

// mustTime returns the format of a time of day.
func mustTime(t *testing.T, micro int, option byte) string {
	t.Helper()
	s, e := cal.Time(micro, option)
	if e != api.OK {
		t.Fatalf("Time(%d, %q): error %v", micro, option, e)
	}
	return s
}
