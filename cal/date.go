package cal

import (
	"iter"
	"sort"

	"qanat/api"
)

// The fields of a date.
const (
	atYear = iota
	atMonth
	atDay
	fieldCount
)

const (
	monthCount = 12
	maxMonth   = 31 // days of the longest months
	weekLength = 7
	maxWeek    = 53
)

// date is a date, which need not be in the calendar.
type date struct{ field [fieldCount]int }

func dateFrom(year, month, day int) date {
	return date{[fieldCount]int{atYear: year, atMonth: month, atDay: day}}
}

func isLeap(year int) bool { return year%4 == 0 && year%100 != 0 || year%400 == 0 }

// monthLength returns the number of days of a month.
func monthLength(year, month int) int {
	switch month {
	case 2:
		if isLeap(year) {
			return 29
		}
		return 28
	case 4, 6, 9, 11:
		return 30
	}
	return maxMonth
}

// months yields the months of a year, with their numbers of days.
func months(year int) iter.Seq2[int, int] {
	return func(yield func(int, int) bool) {
		for month := 1; month <= monthCount; month++ {
			if !yield(month, monthLength(year, month)) {
				return
			}
		}
	}
}

// firstDay returns the day number of January 1 of a year.
func firstDay(year int) int {
	past := year - 1
	return 365*past + past/4 - past/100 + past/400
}

// dateOf returns the date of a day number.
func dateOf(day int) date {
	year := sort.Search(api.MaxYear, func(y int) bool { return firstDay(y+1) > day })
	d := dateFrom(year, 1, 1+day-firstDay(year))
search:
	for month, length := range months(year) {
		d.field[atMonth] = month
		if d.field[atDay] <= length {
			break search
		}
		d.field[atDay] -= length
	}
	return d
}

// number returns the day number of a date; a day that its month does not have counts on into the next month.
func (d date) number() int {
	day := firstDay(d.field[atYear]) + d.field[atDay] - 1
sum:
	for month, length := range months(d.field[atYear]) {
		if month == d.field[atMonth] {
			break sum
		}
		day += length
	}
	return day
}

// inCalendar returns the day number of a date; false if there is no such date.
func (d date) inCalendar() (int, bool) {
	if !isYear(d.field[atYear]) || !isMonth(d.field[atMonth]) || !inRange(d.field[atDay], 1, maxMonth) {
		return 0, false
	}
	day := d.number()
	if dateOf(day) != d {
		return 0, false
	}
	return day, true
}

// weekdayOf returns the weekday of a day number, from 0: day 0 is a Monday.
func weekdayOf(day int) int { return day % weekLength }

// weekDate is an ISO week date; its weekdays count from 1.
type weekDate struct{ year, week, weekday int }

// weekOf returns the week date of a day number. The year of a week is that of its Thursday, which is in the same year as January 4 where the week is the first one.
func weekOf(day int) weekDate {
	thursday := day - weekdayOf(day) + 3
	year := dateOf(thursday).field[atYear]
	return weekDate{year, 1 + (thursday-firstDay(year))/weekLength, 1 + weekdayOf(day)}
}

// inCalendar returns the day number of a week date; false if its year does not have the week, or the day is behind the calendar.
func (w weekDate) inCalendar() (int, bool) {
	fourth := firstDay(w.year) + 3
	monday := fourth - weekdayOf(fourth)
	day := monday + weekLength*(w.week-1) + w.weekday - 1
	if !isDay(day) || weekOf(day) != w {
		return 0, false
	}
	return day, true
}
