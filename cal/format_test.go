package cal_test

import (
	"math/rand"
	"regexp"
	"strconv"
	"strings"
	"testing"
	"time"

	"qanat/api"
	"qanat/cal"
)

// dateOptions and timeOptions are the options of Date and of Time; those of ReadTime are the latter.
const (
	dateOptions = "BCDEIMNOSUW"
	readOptions = "BDEINOSU"
	timeOptions = "CFHLMNS"
)

// libraryDate returns the format of a day by the library.
func libraryDate(day int, option byte) string {
	d := libraryDay(day)
	switch option {
	case 'B':
		return strconv.Itoa(day)
	case 'C':
		year := d.Year()
		for year > 1 && year%100 != 0 {
			year--
		}
		return strconv.Itoa(1 + day - numberOf(time.Date(year, time.January, 1, 0, 0, 0, 0, time.UTC)))
	case 'D':
		return strconv.Itoa(d.YearDay())
	}
	return d.Format(map[byte]string{'E': "02/01/06", 'I': "2006-01-02", 'M': "January", 'N': "2 Jan 2006", 'O': "06/01/02", 'S': "20060102", 'U': "01/02/06", 'W': "Monday"}[option])
}

// libraryClock returns the format of a time of day by the library.
func libraryClock(micro int, option byte) string {
	switch option {
	case 'F':
		return strconv.Itoa(micro)
	case 'H':
		return strconv.Itoa(micro / 3600000000)
	case 'M':
		return strconv.Itoa(micro / 60000000)
	case 'S':
		return strconv.Itoa(micro / 1000000)
	}
	return libraryTime(micro).Format(map[byte]string{'C': "3:04pm", 'L': "15:04:05.000000", 'N': "15:04:05"}[option])
}

// others returns the bytes that are not options.
func others(options string) []byte {
	var list []byte
	for x := range 256 {
		if strings.IndexByte(options, byte(x)) < 0 {
			list = append(list, byte(x))
		}
	}
	return list
}

// P4.4: the formats of the library.
func TestDate(t *testing.T) {
	for _, day := range someDays(6) {
		for _, o := range []byte(dateOptions) {
			if s, e := cal.Date(day, o); e != api.OK || s != libraryDate(day, o) {
				t.Fatalf("Date(%d, %q) is %q, %v", day, o, s, e)
			}
		}
	}
}

// P4.4: the formats that the document names, and the centuries.
func TestNamedDates(t *testing.T) {
	for _, c := range []struct {
		year, month, day int
		option           byte
		want             string
	}{
		{2000, 2, 29, 'B', "730178"}, {2000, 2, 29, 'C', "60"}, {2000, 2, 29, 'D', "60"}, {2000, 2, 29, 'E', "29/02/00"}, {2000, 2, 29, 'I', "2000-02-29"}, {2000, 2, 29, 'M', "February"},
		{2000, 2, 29, 'N', "29 Feb 2000"}, {2000, 2, 29, 'O', "00/02/29"}, {2000, 2, 29, 'S', "20000229"}, {2000, 2, 29, 'U', "02/29/00"}, {2000, 2, 29, 'W', "Tuesday"},
		{1, 1, 1, 'B', "0"}, {1, 1, 1, 'C', "1"}, {1, 1, 1, 'D', "1"}, {1, 1, 1, 'E', "01/01/01"}, {1, 1, 1, 'I', "0001-01-01"}, {1, 1, 1, 'N', "1 Jan 0001"}, {1, 1, 1, 'S', "00010101"}, {1, 1, 1, 'W', "Monday"},
		{99, 12, 31, 'C', "36159"}, {100, 1, 1, 'C', "1"}, {1999, 12, 31, 'C', "36524"}, {2000, 1, 1, 'C', "1"}, {2001, 1, 1, 'C', "367"}, {9999, 12, 31, 'C', "36524"}, {9999, 12, 31, 'B', "3652058"},
		{2000, 12, 31, 'D', "366"}, {1900, 12, 31, 'D', "365"}, {1905, 5, 6, 'N', "6 May 1905"}, {1905, 5, 6, 'O', "05/05/06"}, {9999, 12, 31, 'W', "Friday"}, {999, 9, 9, 'S', "09990909"},
	} {
		if s := mustDate(t, mustDay(t, c.year, c.month, c.day), c.option); s != c.want {
			t.Errorf("%v: Date is %q", c, s)
		}
	}
}

// P4.4, P4.6: other options, and arguments outside the calendar and the day.
func TestNoFormats(t *testing.T) {
	for _, o := range others(dateOptions) {
		if s, e := cal.Date(730178, o); e != api.ErrArg || s != "" {
			t.Errorf("Date with %q is %q, %v", o, s, e)
		}
	}
	for _, o := range others(timeOptions) {
		if s, e := cal.Time(0, o); e != api.ErrArg || s != "" {
			t.Errorf("Time with %q is %q, %v", o, s, e)
		}
		if n, e := cal.ReadTime("0", o); e != api.ErrArg || n != 0 {
			t.Errorf("ReadTime with %q is %d, %v", o, n, e)
		}
	}
	for _, day := range outside(0, api.MaxDay) {
		for _, o := range []byte(dateOptions) {
			if s, e := cal.Date(day, o); e != api.ErrArg || s != "" {
				t.Errorf("Date(%d, %q) is %q, %v", day, o, s, e)
			}
		}
	}
	for _, micro := range outside(0, api.DayMicro-1) {
		for _, o := range []byte(timeOptions) {
			if s, e := cal.Time(micro, o); e != api.ErrArg || s != "" {
				t.Errorf("Time(%d, %q) is %q, %v", micro, o, s, e)
			}
		}
	}
}

// P4.6: the formats of the library, and those that the document names.
func TestTime(t *testing.T) {
	for _, micro := range someTimes(7) {
		for _, o := range []byte(timeOptions) {
			if s, e := cal.Time(micro, o); e != api.OK || s != libraryClock(micro, o) {
				t.Fatalf("Time(%d, %q) is %q, %v", micro, o, s, e)
			}
		}
	}
	for _, c := range []struct {
		micro  int
		option byte
		want   string
	}{
		{47105000012, 'C', "1:05pm"}, {47105000012, 'F', "47105000012"}, {47105000012, 'H', "13"}, {47105000012, 'L', "13:05:05.000012"}, {47105000012, 'M', "785"}, {47105000012, 'N', "13:05:05"}, {47105000012, 'S', "47105"},
		{0, 'C', "12:00am"}, {0, 'F', "0"}, {0, 'H', "0"}, {0, 'L', "00:00:00.000000"}, {0, 'M', "0"}, {0, 'N', "00:00:00"}, {0, 'S', "0"},
		{43200000000, 'C', "12:00pm"}, {43199999999, 'C', "11:59am"}, {3600000000, 'C', "1:00am"}, {api.DayMicro - 1, 'C', "11:59pm"}, {api.DayMicro - 1, 'L', "23:59:59.999999"}, {api.DayMicro - 1, 'S', "86399"},
	} {
		if s := mustTime(t, c.micro, c.option); s != c.want {
			t.Errorf("%v: Time is %q", c, s)
		}
	}
}

// compiled returns patterns by their options.
func compiled(texts map[byte]string) map[byte]*regexp.Regexp {
	set := map[byte]*regexp.Regexp{}
	for option, text := range texts {
		set[option] = regexp.MustCompile("^(" + text + ")$")
	}
	return set
}

// dayPatterns are the forms of the texts of days, with the parts that the library needs to read them.
var dayPatterns = compiled(map[byte]string{
	'B': `(?P<n>0|[1-9][0-9]{0,6})`,
	'D': `(?P<n>0|[1-9][0-9]{0,6})`,
	'E': `(?P<d>[0-9]{2})/(?P<m>[0-9]{2})/(?P<yy>[0-9]{2})`,
	'I': `(?P<y>[0-9]{4})-(?P<m>[0-9]{2})-(?P<d>[0-9]{2})`,
	'N': `(?P<d>[1-9][0-9]?) (?P<name>Jan|Feb|Mar|Apr|May|Jun|Jul|Aug|Sep|Oct|Nov|Dec) (?P<y>[0-9]{4})`,
	'O': `(?P<yy>[0-9]{2})/(?P<m>[0-9]{2})/(?P<d>[0-9]{2})`,
	'S': `(?P<y>[0-9]{4})(?P<m>[0-9]{2})(?P<d>[0-9]{2})`,
	'U': `(?P<m>[0-9]{2})/(?P<d>[0-9]{2})/(?P<yy>[0-9]{2})`,
})

// parts returns the parts of a text by their names in a pattern; nil if it does not match.
func parts(pattern *regexp.Regexp, text string) map[string]string {
	found := pattern.FindStringSubmatch(text)
	if found == nil || strings.Contains(text, "\n") {
		return nil
	}
	set := map[string]string{}
	for k, name := range pattern.SubexpNames() {
		set[name] = found[k]
	}
	return set
}

// libraryRead reads the text of a day, by its parts and the library.
func libraryRead(text string, option byte, today int) (int, bool) {
	set := parts(dayPatterns[option], text)
	if set == nil {
		return 0, false
	}
	number := func(name string) int {
		n, _ := strconv.Atoi(set[name])
		return n
	}
	now := libraryDay(today).Year()
	year, month, day := number("y"), number("m"), number("d")
	switch {
	case option == 'B':
		return number("n"), number("n") <= api.MaxDay
	case option == 'D':
		d := libraryDay(numberOf(time.Date(now, time.January, 1, 0, 0, 0, 0, time.UTC)) + number("n") - 1)
		return numberOf(d), d.Year() == now
	case set["name"] != "":
		name, _ := time.Parse("Jan", set["name"])
		month = int(name.Month())
	case set["yy"] != "":
		for y := now - 50; y <= now+49; y++ {
			if (y+10000)%100 == number("yy") {
				year = y
			}
		}
	}
	d := time.Date(year, time.Month(month), day, 0, 0, 0, 0, time.UTC)
	return numberOf(d), year >= 1 && year <= api.MaxYear && d.Year() == year && int(d.Month()) == month && d.Day() == day
}

// checkRead compares ReadDay with the library.
func checkRead(t *testing.T, text string, option byte, today int) {
	t.Helper()
	want, is := libraryRead(text, option, today)
	n, e := cal.ReadDay(text, option, today)
	if is && (e != api.OK || n != want) || !is && (e != api.ErrForm || n != 0) {
		t.Errorf("ReadDay(%q, %q, %d) is %d, %v, not %d, %v", text, option, today, n, e, want, is)
	}
	if e == api.OK && mustDate(t, n, option) != text { // P4.10
		t.Errorf("ReadDay(%q, %q, %d) is %d, which is %q", text, option, today, n, mustDate(t, n, option))
	}
}

// P4.5: texts of days, named ones.
func TestReadDay(t *testing.T) {
	for _, c := range []struct {
		text   string
		option byte
		today  int
		want   int
		e      api.Errno
	}{
		{"29/02/00", 'E', 730178, 730178, api.OK}, {"50/01/01", 'O', 730178, mustDay(t, 1950, 1, 1), api.OK}, {"49/12/31", 'O', 730178, mustDay(t, 2049, 12, 31), api.OK}, {"02/29/04", 'U', 730178, mustDay(t, 2004, 2, 29), api.OK},
		{"0", 'B', 0, 0, api.OK}, {"3652058", 'B', 0, api.MaxDay, api.OK}, {"3652059", 'B', 0, 0, api.ErrForm}, {"03652058", 'B', 0, 0, api.ErrForm}, {"00", 'B', 0, 0, api.ErrForm}, {"-1", 'B', 0, 0, api.ErrForm}, {"+1", 'B', 0, 0, api.ErrForm}, {"10000000", 'B', 0, 0, api.ErrForm},
		{"1", 'D', 0, 0, api.OK}, {"0", 'D', 730178, 0, api.ErrForm}, {"0", 'D', 0, 0, api.ErrForm}, {"366", 'D', 730178, mustDay(t, 2000, 12, 31), api.OK}, {"366", 'D', 364, 0, api.ErrForm}, {"367", 'D', 730178, 0, api.ErrForm}, {"060", 'D', 730178, 0, api.ErrForm},
		{"365", 'D', api.MaxDay, api.MaxDay, api.OK}, {"366", 'D', api.MaxDay, 0, api.ErrForm},
		{"29 Feb 2000", 'N', 0, 730178, api.OK}, {"1 Jan 0001", 'N', 0, 0, api.OK}, {"1 Jan 1", 'N', 0, 0, api.ErrForm}, {"01 Jan 2000", 'N', 0, 0, api.ErrForm}, {"1 jan 2000", 'N', 0, 0, api.ErrForm}, {"1 JAN 2000", 'N', 0, 0, api.ErrForm}, {"1 January 2000", 'N', 0, 0, api.ErrForm},
		{"1  Jan 2000", 'N', 0, 0, api.ErrForm}, {"1 Jan 2000 ", 'N', 0, 0, api.ErrForm}, {" 1 Jan 2000", 'N', 0, 0, api.ErrForm}, {"31 Apr 2000", 'N', 0, 0, api.ErrForm}, {"0 Jan 2000", 'N', 0, 0, api.ErrForm}, {"1 Jan 0000", 'N', 0, 0, api.ErrForm}, {"Jan", 'N', 0, 0, api.ErrForm},
		{"99991231", 'S', 0, api.MaxDay, api.OK}, {"00000101", 'S', 0, 0, api.ErrForm}, {"20001301", 'S', 0, 0, api.ErrForm}, {"20000001", 'S', 0, 0, api.ErrForm}, {"20000100", 'S', 0, 0, api.ErrForm}, {"20000132", 'S', 0, 0, api.ErrForm}, {"2000101", 'S', 0, 0, api.ErrForm}, {"020000101", 'S', 0, 0, api.ErrForm},
		{"2000-02-29", 'I', 0, 730178, api.OK}, {"2001-02-29", 'I', 0, 0, api.ErrForm}, {"2000-2-29", 'I', 0, 0, api.ErrForm}, {"2000/02/29", 'I', 0, 0, api.ErrForm}, {"2000--2-29", 'I', 0, 0, api.ErrForm}, {"10000-01-01", 'I', 0, 0, api.ErrForm}, {"99999999999999999999-01-01", 'I', 0, 0, api.ErrForm},
		{"30/02/00", 'E', 730178, 0, api.ErrForm}, {"1/1/00", 'E', 730178, 0, api.ErrForm}, {"29-02-00", 'E', 730178, 0, api.ErrForm}, {"", 'E', 730178, 0, api.ErrForm}, {"29/02/2000", 'E', 730178, 0, api.ErrForm}, {"29/02/100", 'E', 730178, 0, api.ErrForm},
		{"29/02/00", 'E', mustDay(t, 1900, 1, 1), 0, api.ErrForm}, {"01/01/00", 'E', 0, 0, api.ErrForm}, {"01/01/51", 'E', 0, 0, api.ErrForm}, {"01/01/50", 'E', 0, mustDay(t, 50, 1, 1), api.OK}, {"00/01/01", 'O', api.MaxDay, 0, api.ErrForm}, {"01/01/49", 'U', api.MaxDay, mustDay(t, 9949, 1, 1), api.OK},
	} {
		if n, e := cal.ReadDay(c.text, c.option, c.today); e != c.e || n != c.want {
			t.Errorf("%v: ReadDay is %d, %v", c, n, e)
		}
		checkRead(t, c.text, c.option, c.today)
	}
}

// P4.5: other options and an invalid today come before ErrForm.
func TestReadDayArguments(t *testing.T) {
	for _, o := range others(readOptions) {
		for _, text := range []string{"", "1", "Tuesday", "February", "60", "730178"} {
			if n, e := cal.ReadDay(text, o, 730178); e != api.ErrArg || n != 0 {
				t.Errorf("ReadDay(%q, %q) is %d, %v", text, o, n, e)
			}
		}
	}
	for _, today := range outside(0, api.MaxDay) {
		for _, o := range []byte(readOptions) {
			for _, text := range []string{libraryDate(730178, o), "", "x"} {
				if n, e := cal.ReadDay(text, o, today); e != api.ErrArg || n != 0 {
					t.Errorf("ReadDay(%q, %q, %d) is %d, %v", text, o, today, n, e)
				}
			}
		}
	}
}

// P4.5: each two-digit year, seen from years at all places of a century and from the ends of the calendar.
func TestTwoDigitYears(t *testing.T) {
	years := []int{1, 2, 49, 50, 51, 52, 99, 100, 149, 150, 151, 1900, 1949, 1950, 1999, 2000, 2026, 2049, 2050, 2099, 9899, 9900, 9949, 9950, 9951, 9998, 9999}
	for _, year := range years {
		today := mustDay(t, year, 7, 15)
		for last := range 100 {
			yy := strconv.Itoa(last/10) + strconv.Itoa(last%10)
			checkRead(t, "01/12/"+yy, 'E', today)
			checkRead(t, "12/31/"+yy, 'U', today)
			checkRead(t, yy+"/02/29", 'O', today)
			n, e := cal.ReadDay("31/12/"+yy, 'E', today)
			y, _, _, _ := cal.DateOf(n)
			if e == api.OK && (y < year-50 || y > year+49 || y%100 != last) {
				t.Errorf("from %d the year %s is %d", year, yy, y)
			}
		}
	}
}

// spoiled returns a text with one byte changed, added, removed or doubled, or two exchanged.
func spoiled(r *rand.Rand, text string) string {
	bytes := "0123456789/-: .JanFebDecapm+\x00\n"
	at := r.Intn(len(text))
	x := string(bytes[r.Intn(len(bytes))])
	switch r.Intn(5) {
	case 0:
		return text[:at] + x + text[at:]
	case 1:
		return text[:at] + text[at+1:]
	case 2:
		return text[:at] + text[at:at+1] + text[at:]
	case 3:
		to := r.Intn(len(text))
		list := []byte(text)
		list[at], list[to] = list[to], list[at]
		return string(list)
	}
	return text[:at] + x + text[at+1:]
}

// P4.5, P4.10: texts of days, as they are told, with changes, and with other options.
func TestReadDayText(t *testing.T) {
	r := rand.New(rand.NewSource(8))
	days := someDays(9)
	for range 60000 {
		day, today := days[r.Intn(len(days))], days[r.Intn(len(days))]
		if r.Intn(2) == 0 {
			today = day
		}
		option := readOptions[r.Intn(len(readOptions))]
		told := option
		if r.Intn(8) == 0 {
			told = dateOptions[r.Intn(len(dateOptions))]
		}
		text := libraryDate(day, told)
		for range r.Intn(4) {
			if text != "" {
				text = spoiled(r, text)
			}
		}
		checkRead(t, text, option, today)
	}
}

// clockPatterns are the forms of the texts of times of day.
var clockPatterns = compiled(map[byte]string{
	'C': `(?P<c>[1-9]|1[0-2]):(?P<m>[0-5][0-9])(?P<half>am|pm)`,
	'F': `(?P<u>0|[1-9][0-9]{0,10})`,
	'H': `(?P<h>0|[1-9][0-9]{0,10})`,
	'L': `(?P<h>[01][0-9]|2[0-3]):(?P<m>[0-5][0-9]):(?P<s>[0-5][0-9])\.(?P<u>[0-9]{6})`,
	'M': `(?P<m>0|[1-9][0-9]{0,10})`,
	'N': `(?P<h>[01][0-9]|2[0-3]):(?P<m>[0-5][0-9]):(?P<s>[0-5][0-9])`,
	'S': `(?P<s>0|[1-9][0-9]{0,10})`,
})

// libraryReadTime reads the text of a time of day by its parts.
func libraryReadTime(text string, option byte) (int, bool) {
	set := parts(clockPatterns[option], text)
	if set == nil {
		return 0, false
	}
	sum := 0.0
	for name, unit := range map[string]float64{"c": 3600e6, "h": 3600e6, "m": 60e6, "s": 1e6, "u": 1} {
		n, _ := strconv.Atoi(set[name])
		sum += float64(n) * unit
	}
	if set["c"] == "12" {
		sum -= 12 * 3600e6
	}
	if set["half"] == "pm" {
		sum += 12 * 3600e6
	}
	return int(sum), sum < api.DayMicro
}

// checkReadTime compares ReadTime with the parts of the text.
func checkReadTime(t *testing.T, text string, option byte) {
	t.Helper()
	want, is := libraryReadTime(text, option)
	n, e := cal.ReadTime(text, option)
	if is && (e != api.OK || n != want) || !is && (e != api.ErrForm || n != 0) {
		t.Errorf("ReadTime(%q, %q) is %d, %v, not %d, %v", text, option, n, e, want, is)
	}
	if e == api.OK && mustTime(t, n, option) != text { // P4.11
		t.Errorf("ReadTime(%q, %q) is %d, which is %q", text, option, n, mustTime(t, n, option))
	}
}

// P4.6: texts of times of day, named ones.
func TestReadTime(t *testing.T) {
	for _, c := range []struct {
		text   string
		option byte
		want   int
		e      api.Errno
	}{
		{"1:05pm", 'C', 47100000000, api.OK}, {"12:00am", 'C', 0, api.OK}, {"12:00pm", 'C', 43200000000, api.OK}, {"11:59pm", 'C', 86340000000, api.OK}, {"12:59am", 'C', 3540000000, api.OK},
		{"0:00am", 'C', 0, api.ErrForm}, {"13:00pm", 'C', 0, api.ErrForm}, {"01:05pm", 'C', 0, api.ErrForm}, {"1:5pm", 'C', 0, api.ErrForm}, {"1:60pm", 'C', 0, api.ErrForm}, {"1:05PM", 'C', 0, api.ErrForm}, {"1:05", 'C', 0, api.ErrForm}, {"1:05 pm", 'C', 0, api.ErrForm}, {"pm", 'C', 0, api.ErrForm}, {"", 'C', 0, api.ErrForm}, {"1:05ampm", 'C', 0, api.ErrForm}, {"1:005pm", 'C', 0, api.ErrForm},
		{"0", 'F', 0, api.OK}, {"86399999999", 'F', api.DayMicro - 1, api.OK}, {"86400000000", 'F', 0, api.ErrForm}, {"01", 'F', 0, api.ErrForm}, {"-0", 'F', 0, api.ErrForm}, {"", 'F', 0, api.ErrForm}, {"99999999999999999999", 'F', 0, api.ErrForm},
		{"23", 'H', 82800000000, api.OK}, {"24", 'H', 0, api.ErrForm}, {"00", 'H', 0, api.ErrForm}, {"5124095577", 'H', 0, api.ErrForm}, {"1439", 'M', 86340000000, api.OK}, {"1440", 'M', 0, api.ErrForm}, {"86399", 'S', 86399000000, api.OK}, {"86400", 'S', 0, api.ErrForm}, {"1.0", 'S', 0, api.ErrForm},
		{"13:05:05.000012", 'L', 47105000012, api.OK}, {"13:05:05.00012", 'L', 0, api.ErrForm}, {"13:05:05", 'L', 0, api.ErrForm}, {"23:59:59.1000000", 'L', 0, api.ErrForm}, {"23:59:60.000000", 'L', 0, api.ErrForm},
		{"00:00:00", 'N', 0, api.OK}, {"13:05:05", 'N', 47105000000, api.OK}, {"24:00:00", 'N', 0, api.ErrForm}, {"23:60:00", 'N', 0, api.ErrForm}, {"22:59:60", 'N', 0, api.ErrForm}, {"1:05:05", 'N', 0, api.ErrForm}, {"13:05:05.000012", 'N', 0, api.ErrForm}, {"13.05.05", 'N', 0, api.ErrForm}, {"00:00:-1", 'N', 0, api.ErrForm},
	} {
		if n, e := cal.ReadTime(c.text, c.option); e != c.e || n != c.want {
			t.Errorf("%v: ReadTime is %d, %v", c, n, e)
		}
		checkReadTime(t, c.text, c.option)
	}
}

// P4.6, P4.11: texts of times of day, as they are told, with changes, and with other options.
func TestReadTimeText(t *testing.T) {
	r := rand.New(rand.NewSource(10))
	times := someTimes(11)
	for range 60000 {
		option := timeOptions[r.Intn(len(timeOptions))]
		told := option
		if r.Intn(8) == 0 {
			told = timeOptions[r.Intn(len(timeOptions))]
		}
		text := libraryClock(times[r.Intn(len(times))], told)
		for range r.Intn(4) {
			if text != "" {
				text = spoiled(r, text)
			}
		}
		checkReadTime(t, text, option)
	}
	for n := range 1500 {
		for _, o := range []byte("FHMS") {
			checkReadTime(t, strconv.Itoa(n), o)
		}
	}
	for n := 86300; n < 86500; n++ {
		checkReadTime(t, strconv.Itoa(n), 'S')
	}
}
