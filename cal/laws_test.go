package cal_test

import (
	"testing"

	"qanat/api"
	"qanat/cal"
)

// P4.8: a year follows the other, and 400 years have 146097 days.
func TestYears(t *testing.T) {
	for year := 1; year <= api.MaxYear; year++ {
		first, last := mustDay(t, year, 1, 1), mustDay(t, year, 12, 31)
		if year < api.MaxYear && mustDay(t, year+1, 1, 1) != last+1 {
			t.Errorf("the day after December 31, %d, is not January 1", year)
		}
		if year+400 <= api.MaxYear && mustDay(t, year+400, 1, 1)-first != 146097 {
			t.Errorf("400 years after %d do not have 146097 days", year)
		}
	}
}

// P4.9: consecutive days have consecutive weekdays; a week has seven days of the same year and week, and the week of January 4 is the first one.
func TestWholeWeeks(t *testing.T) {
	type week struct{ year, week int }
	lengths := map[week]int{}
	for day := 0; day <= api.MaxDay; day++ {
		y, w, d, e := cal.Week(day)
		if e != api.OK || d != day%7+1 {
			t.Fatalf("Week(%d) is %d, %d, %d, %v", day, y, w, d, e)
		}
		if n, e := cal.WeekDay(y, w, d); e != api.OK || n != day {
			t.Fatalf("WeekDay(%d, %d, %d) is %d, %v", y, w, d, n, e)
		}
		lengths[week{y, w}]++
	}
	for w, n := range lengths {
		if n != 7 && w != (week{9999, 52}) {
			t.Errorf("week %v has %d days", w, n)
		}
	}
	for year := 1; year <= api.MaxYear; year++ {
		if y, w, _, _ := cal.Week(mustDay(t, year, 1, 4)); y != year || w != 1 {
			t.Errorf("January 4 of %d is in week %d of %d", year, w, y)
		}
	}
}

// P4.10: ReadDay takes back what Date tells.
func TestReadTold(t *testing.T) {
	days := someDays(2)
	for k, day := range days {
		today := days[(k*7919)%len(days)]
		year, _, _, _ := cal.DateOf(day)
		now, _, _, _ := cal.DateOf(today)
		for _, o := range []byte("BINS") {
			if n, e := cal.ReadDay(mustDate(t, day, o), o, today); e != api.OK || n != day {
				t.Errorf("%d as %q is read as %d, %v", day, o, n, e)
			}
		}
		for _, o := range []byte("EOU") {
			n, e := cal.ReadDay(mustDate(t, day, o), o, today)
			if near := year >= now-50 && year <= now+49; near && (e != api.OK || n != day) || !near && e == api.OK && n == day {
				t.Errorf("%d as %q is read as %d, %v on day %d", day, o, n, e, today)
			}
			if n, e := cal.ReadDay(mustDate(t, day, o), o, day); e != api.OK || n != day {
				t.Errorf("%d as %q is read as %d, %v on that day", day, o, n, e)
			}
		}
		if n, e := cal.ReadDay(mustDate(t, day, 'D'), 'D', mustDay(t, year, 1+k%12, 1)); e != api.OK || n != day {
			t.Errorf("%d as 'D' is read as %d, %v", day, n, e)
		}
	}
}

// P4.11: ReadTime takes back what Time tells, or the first time of day that is told so.
func TestReadTimeTold(t *testing.T) {
	for _, micro := range someTimes(3) {
		for _, o := range []byte("CFHLMNS") {
			s := mustTime(t, micro, o)
			n, e := cal.ReadTime(s, o)
			if e != api.OK || n > micro || mustTime(t, n, o) != s {
				t.Fatalf("%d as %q is read as %d, %v", micro, o, n, e)
			}
			if (o == 'F' || o == 'L') && n != micro {
				t.Errorf("%d as %q is read as %d", micro, o, n)
			}
			if n > 0 && mustTime(t, n-1, o) == s {
				t.Errorf("%q as %q is read as %d, and is told of %d", s, o, n, n-1)
			}
		}
	}
}

// P4.12: After and Between, and their sums.
func TestDurations(t *testing.T) {
	moments := someMoments(4)
	total := func(days, micro int) int { return days*api.DayMicro + micro }
	for k, m := range moments {
		n, tick := (k*7919)%(api.MaxSteps/2), k*104729%api.MaxTick
		other := moments[(k*31)%len(moments)]
		days, micro, e := cal.Between(m, other)
		backDays, backMicro, back := cal.Between(other, m)
		if e != api.OK || back != api.OK || total(days, micro)+total(backDays, backMicro) != 0 {
			t.Errorf("Between of %v and %v: %d, %d, %v; back %d, %d, %v", m, other, days, micro, e, backDays, backMicro, back)
		}
		later, e := cal.After(m, n, tick)
		if e == api.ErrRange {
			continue
		}
		days, micro, between := cal.Between(m, later)
		if e != api.OK || between != api.OK || micro < 0 || micro >= api.DayMicro || total(days, micro) != n*tick {
			t.Errorf("After %v, %d of %d: %v, %v; %d, %d, %v", m, n, tick, later, e, days, micro, between)
		}
		twice, e := cal.After(later, n/2, tick)
		if once, direct := cal.After(m, n+n/2, tick); e != direct || once != twice {
			t.Errorf("After %v, %d of %d: %v in two parts, %v at once", m, n+n/2, tick, twice, once)
		}
	}
}

// P4.13: the later day has the greater formats.
func TestOrder(t *testing.T) {
	days := someDays(5)
	for k := 1; k < len(days); k++ {
		for _, o := range []byte("SI") {
			if a, b := mustDate(t, days[k-1], o), mustDate(t, days[k], o); a >= b {
				t.Errorf("%d is %s, %d is %s", days[k-1], a, days[k], b)
			}
		}
	}
}
