package cal

import (
	"strconv"
	"strings"

	"qanat/api"
)

// Units of time, in microseconds.
const (
	second = 1000000
	minute = 60 * second
	hour   = 60 * minute
)

// field is a number of which at least so many digits are written.
type field struct{ value, width int }

// joined returns fields, padded with zeros, with a sign between them.
func joined(sign string, fields ...field) string {
	texts := make([]string, len(fields))
	for k, f := range fields {
		text := strconv.Itoa(f.value)
		texts[k] = strings.Repeat("0", max(0, f.width-len(text))) + text
	}
	return strings.Join(texts, sign)
}

func monthNames() []string {
	return strings.Fields("January February March April May June July August September October November December")
}

func weekdayNames() []string {
	return strings.Fields("Monday Tuesday Wednesday Thursday Friday Saturday Sunday")
}

// halves returns the names of the two halves of a day.
func halves() []string { return []string{"am", "pm"} }

// brief returns the abbreviation of a name.
func brief(name string) string { return name[:3] }

// formats returns the formats of DATE, by their options, for a date of the calendar.
func (d date) formats() map[byte]func() string {
	return map[byte]func() string{
		'B': d.base,
		'C': d.century,
		'D': d.days,
		'E': d.european,
		'I': d.iso,
		'M': d.month,
		'N': d.normal,
		'O': d.ordered,
		'S': d.standard,
		'U': d.usa,
		'W': d.weekday,
	}
}

func (d date) base() string { return strconv.Itoa(d.number()) }

// since returns the number of days from January 1 of a year to the date, both included.
func (d date) since(year int) string { return strconv.Itoa(1 + d.number() - firstDay(year)) }

func (d date) century() string { return d.since(max(1, d.field[atYear]/100*100)) }

func (d date) days() string { return d.since(d.field[atYear]) }

func (d date) european() string { return d.short(atDay, atMonth, atYear) }

func (d date) iso() string { return d.long("-") }

func (d date) month() string { return monthNames()[d.field[atMonth]-1] }

func (d date) normal() string {
	return strconv.Itoa(d.field[atDay]) + " " + brief(d.month()) + " " + joined("", d.fullYear())
}

func (d date) ordered() string { return d.short(atYear, atMonth, atDay) }

func (d date) standard() string { return d.long("") }

func (d date) usa() string { return d.short(atMonth, atDay, atYear) }

func (d date) weekday() string { return weekdayNames()[weekdayOf(d.number())] }

func (d date) fullYear() field { return field{d.field[atYear], 4} }

// long returns the fields in their order, with a sign between them.
func (d date) long(sign string) string {
	return joined(sign, d.fullYear(), field{d.field[atMonth], 2}, field{d.field[atDay], 2})
}

// short returns the last two digits of fields, in an order.
func (d date) short(order ...int) string {
	fields := make([]field, len(order))
	for k, at := range order {
		fields[k] = field{d.field[at] % 100, 2}
	}
	return joined("/", fields...)
}

// Date formats a day number.
func Date(day int, option byte) (string, api.Errno) {
	if !isDay(day) {
		return "", api.ErrArg
	}
	format, known := dateOf(day).formats()[option]
	if !known {
		return "", api.ErrArg
	}
	return format(), api.OK
}

// clock is a time of day.
type clock int

// formats returns the formats of TIME, by their options.
func (c clock) formats() map[byte]func() string {
	return map[byte]func() string{
		'C': c.civil,
		'F': c.fine,
		'H': c.hours,
		'L': c.long,
		'M': c.minutes,
		'N': c.normal,
		'S': c.seconds,
	}
}

// count returns the number of complete units since midnight.
func (c clock) count(unit int) int { return int(c) / unit }

func (c clock) fine() string { return strconv.Itoa(c.count(1)) }

func (c clock) hours() string { return strconv.Itoa(c.count(hour)) }

func (c clock) minutes() string { return strconv.Itoa(c.count(minute)) }

func (c clock) seconds() string { return strconv.Itoa(c.count(second)) }

func (c clock) minuteField() field { return field{c.count(minute) % 60, 2} }

// civil tells the hours 0 and 12 as 12.
func (c clock) civil() string {
	hours := c.count(hour)
	return joined(":", field{1 + (hours+11)%12, 1}, c.minuteField()) + halves()[hours/12]
}

func (c clock) normal() string {
	return joined(":", field{c.count(hour), 2}, c.minuteField(), field{c.count(second) % 60, 2})
}

func (c clock) long() string { return c.normal() + "." + joined("", field{c.count(1) % second, 6}) }

// Time formats a time of day in microseconds.
func Time(micro int, option byte) (string, api.Errno) {
	if !isTime(micro) {
		return "", api.ErrArg
	}
	format, known := clock(micro).formats()[option]
	if !known {
		return "", api.ErrArg
	}
	return format(), api.OK
}
