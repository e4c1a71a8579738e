package cal

import (
	"strconv"
	"strings"

	"qanat/api"
)

const (
	digits    = "0123456789"
	maxDigits = 11 // of the longest number of a format, that of 'F'
)

// numbersIn returns a function that reads the numbers in a text, one with each call: -1 where there is none, or where it is too long.
func numbersIn(text string) func() int {
	rest := text
	return func() int {
		from := strings.IndexAny(rest, digits)
		if from < 0 {
			return -1
		}
		behind := strings.TrimLeft(rest[from:], digits)
		number := rest[from : len(rest)-len(behind)]
		rest = behind
		if len(number) > maxDigits {
			return -1
		}
		n, _ := strconv.Atoi(number)
		return n
	}
}

// find returns the index of the first element of a list for which is is true; -1 if there is none.
func find[T any](list []T, is func(T) bool) int {
	for k, x := range list {
		if is(x) {
			return k
		}
	}
	return -1
}

// dayText is the text of a day that is read in a year. Its readers return the only day of the calendar whose format the text can be; whether it is, the format itself tells.
type dayText struct {
	text string
	year int
}

// readers returns the readers of a text, by their options.
func (t dayText) readers() map[byte]func() (int, bool) {
	return map[byte]func() (int, bool){
		'B': t.base,
		'D': t.days,
		'E': t.european,
		'I': t.iso,
		'N': t.normal,
		'O': t.ordered,
		'S': t.standard,
		'U': t.usa,
	}
}

// counted returns the day that the number in the text counts from a day on.
func (t dayText) counted(from int) (int, bool) {
	day := from + numbersIn(t.text)()
	if !isDay(day) {
		return 0, false
	}
	return day, true
}

func (t dayText) base() (int, bool) { return t.counted(0) }

func (t dayText) days() (int, bool) { return t.counted(firstDay(t.year) - 1) }

func (t dayText) european() (int, bool) { return t.short(atDay, atMonth, atYear) }

func (t dayText) iso() (int, bool) { return t.inOrder(atYear, atMonth, atDay).inCalendar() }

func (t dayText) normal() (int, bool) {
	d := t.inOrder(atDay, atYear)
	d.field[atMonth] = 1 + find(monthNames(), func(name string) bool { return strings.Contains(t.text, brief(name)) })
	return d.inCalendar()
}

func (t dayText) ordered() (int, bool) { return t.short(atYear, atMonth, atDay) }

func (t dayText) standard() (int, bool) {
	all := numbersIn(t.text)()
	return dateFrom(all/10000, all/100%100, all%100).inCalendar()
}

func (t dayText) usa() (int, bool) { return t.short(atMonth, atDay, atYear) }

// inOrder returns a date whose fields, in an order, are the numbers in the text.
func (t dayText) inOrder(order ...int) date {
	var d date
	next := numbersIn(t.text)
	for _, at := range order {
		d.field[at] = next()
	}
	return d
}

// short reads a date whose year has two digits.
func (t dayText) short(order ...int) (int, bool) {
	d := t.inOrder(order...)
	d.field[atYear] = t.fullYear(d.field[atYear])
	return d.inCalendar()
}

// fullYear returns the year with two last digits that is less than half a century away, or half a century back.
func (t dayText) fullYear(last int) int {
	year := t.year/100*100 + last
	switch {
	case year < t.year-50:
		return year + 100
	case year > t.year+49:
		return year - 100
	}
	return year
}

// ReadDay parses a date.
func ReadDay(s string, option byte, today int) (int, api.Errno) {
	if !isDay(today) {
		return 0, api.ErrArg
	}
	read, known := dayText{s, dateOf(today).field[atYear]}.readers()[option]
	if !known {
		return 0, api.ErrArg
	}
	day, is := read()
	if !is || dateOf(day).formats()[option]() != s {
		return 0, api.ErrForm
	}
	return day, api.OK
}

// timeText is the text of a time of day. Its readers return the first time of day whose format the text can be; whether it is, the format itself tells.
type timeText string

// readers returns the readers of a text, by their options.
func (t timeText) readers() map[byte]func() (int, bool) {
	return map[byte]func() (int, bool){
		'C': t.civil,
		'F': t.fine,
		'H': t.hours,
		'L': t.long,
		'M': t.minutes,
		'N': t.normal,
		'S': t.seconds,
	}
}

func (t timeText) fine() (int, bool) { return t.counted(1) }

func (t timeText) hours() (int, bool) { return t.counted(hour) }

func (t timeText) minutes() (int, bool) { return t.counted(minute) }

func (t timeText) seconds() (int, bool) { return t.counted(second) }

func (t timeText) normal() (int, bool) { return t.counted(hour, minute, second) }

func (t timeText) long() (int, bool) { return t.counted(hour, minute, second, 1) }

// civil takes the hour 12 as 0, and adds those of the first half of the day to the second one.
func (t timeText) civil() (int, bool) {
	half := find(halves(), func(name string) bool { return strings.HasSuffix(string(t), name) })
	micro, is := t.counted(hour, minute)
	if !is || half < 0 {
		return 0, false
	}
	return micro%(12*hour) + half*12*hour, true
}

// counted returns the time after midnight that the numbers in the text count, each in its unit.
func (t timeText) counted(units ...int) (int, bool) {
	micro := 0
	next := numbersIn(string(t))
	for _, unit := range units {
		n := next()
		if !inRange(n, 0, api.DayMicro/unit) { // so that the product is not too large
			return 0, false
		}
		micro += n * unit
	}
	if !isTime(micro) {
		return 0, false
	}
	return micro, true
}

// ReadTime parses a time of day.
func ReadTime(s string, option byte) (int, api.Errno) {
	read, known := timeText(s).readers()[option]
	if !known {
		return 0, api.ErrArg
	}
	micro, is := read()
	if !is || clock(micro).formats()[option]() != s {
		return 0, api.ErrForm
	}
	return micro, api.OK
}
