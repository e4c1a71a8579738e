package dec_test

import (
	"math/rand"
	"regexp"
	"strconv"
	"strings"
	"testing"

	"qanat/api"
	"qanat/dec"
)

// P1.2: plain, scientific and engineering notation.
func TestTell(t *testing.T) {
	zeros := func(n int) string { return strings.Repeat("0", n) }
	for _, c := range []struct {
		n                  api.Num
		digits             int
		scientific, engine string
	}{
		{zero, 1, "0", "0"}, {num(false, "1250", -1), 9, "125.0", "125.0"}, {num(true, "1250", -1), 9, "-125.0", "-125.0"},
		{num(false, "5", 0), 1, "5", "5"}, {num(false, "5", -1), 9, "0.5", "0.5"}, {num(false, "55", -2), 9, "0.55", "0.55"}, {num(false, "55", -3), 9, "0.055", "0.055"},
		{num(false, "1", 8), 9, "100000000", "100000000"}, {num(false, "15", 7), 9, "150000000", "150000000"}, {num(false, "123456789", 0), 9, "123456789", "123456789"},
		{num(false, "15", 8), 9, "1.5E+9", "1.5E+9"}, {num(false, "1", 9), 9, "1E+9", "1E+9"}, {num(false, "1", 10), 9, "1E+10", "10E+9"}, {num(false, "1", 11), 9, "1E+11", "100E+9"},
		{num(false, "1", 12), 9, "1E+12", "1E+12"}, {num(false, "123", 9), 9, "1.23E+11", "123E+9"}, {num(false, "1234", 8), 9, "1.234E+11", "123.4E+9"}, {num(true, "12", 9), 9, "-1.2E+10", "-12E+9"},
		{num(false, "12", 10), 9, "1.2E+11", "120E+9"}, {num(false, "100", 9), 9, "1.00E+11", "100E+9"}, {num(false, "1000", 9), 9, "1.000E+12", "1.000E+12"},
		{num(false, "5", -18), 9, "0." + zeros(17) + "5", "0." + zeros(17) + "5"}, {num(false, "5", -19), 9, "5E-19", "500E-21"}, {num(true, "5", -20), 9, "-5E-20", "-50E-21"},
		{num(false, "5", -21), 9, "5E-21", "5E-21"}, {num(false, "55", -19), 9, "5.5E-18", "5.5E-18"}, {num(false, "1234567890123456789", -18), 9, "1.234567890123456789", "1.234567890123456789"},
		{num(false, "12345678901234567890", -19), 9, "1.2345678901234567890E+0", "1.2345678901234567890E+0"}, {num(false, "123", -3), 1, "1.23E-1", "123E-3"},
		{num(false, "12", -2), 1, "0.12", "0.12"}, {num(false, "10", 0), 1, "1.0E+1", "10E+0"}, {num(false, "1", 1), 1, "1E+1", "10E+0"}, {num(false, "1", 2), 1, "1E+2", "100E+0"}, {num(false, "123", 0), 1, "1.23E+2", "123E+0"},
		{num(false, "1234", -3), 1, "1.234E+0", "1.234E+0"}, {num(false, "12345", -3), 1, "1.2345E+1", "12.345E+0"},
		{num(false, "1", 999), 40, "1E+999", "1E+999"}, {num(false, "1", -999), 40, "1E-999", "1E-999"}, {num(false, "1", -998), 40, "1E-998", "10E-999"}, {num(false, "1", -997), 40, "1E-997", "100E-999"},
		{num(false, "1", 39), 40, "1" + zeros(39), "1" + zeros(39)}, {num(false, "1", -80), 40, "0." + zeros(79) + "1", "0." + zeros(79) + "1"}, {num(false, "1", -81), 40, "1E-81", "1E-81"},
		{num(false, nines(1000), -1), 9, "9." + nines(999) + "E+998", "999." + nines(997) + "E+996"},
	} {
		for form, want := range []string{c.scientific, c.engine} {
			if text, e := dec.Tell(c.n, api.Settings{Digits: c.digits, Form: form}); e != api.OK || text != want {
				t.Errorf("Tell(%.40v, %d, form %d): %.60q %v, want %.60q", c.n, c.digits, form, text, e, want)
			}
		}
	}
}

// P1.2: the shape of what Tell writes, whatever the number.
func TestTellShape(t *testing.T) {
	plain := regexp.MustCompile(`^-?(0|[1-9][0-9]*)(\.[0-9]+)?$`)
	power := regexp.MustCompile(`^-?([1-9][0-9]*)(\.[0-9]+)?E([+-](?:0|[1-9][0-9]*))$`)
	r := rand.New(rand.NewSource(2))
	for range 50000 {
		n := randomNum(r, 50)
		s := api.Settings{Digits: randomDigits(r), Form: r.Intn(2)}
		text, e := dec.Tell(n, s)
		if e != api.OK || strings.HasPrefix(text, "-") != n.Neg {
			t.Fatalf("Tell(%v, %v): %q %v", n, s, text, e)
		}
		if n.Exp+len(n.Digits)-1 < s.Digits && n.Exp >= -2*s.Digits {
			if !plain.MatchString(text) || n.Exp < 0 && len(text)-strings.IndexByte(text, '.')-1 != -n.Exp {
				t.Fatalf("Tell(%v, %v): %q is not plain", n, s, text)
			}
			continue
		}
		part := power.FindStringSubmatch(text)
		if part == nil {
			t.Fatalf("Tell(%v, %v): %q has no exponent", n, s, text)
		}
		exp, _ := strconv.Atoi(part[3])
		if s.Form == 0 && len(part[1]) != 1 || s.Form == 1 && (exp%3 != 0 || len(part[1]) > 3) || exp != 0 && part[3][0] == '+' && exp < 0 {
			t.Fatalf("Tell(%v, %v): %q", n, s, text)
		}
	}
}

// P1.10: Read(Tell(n, s)) has the value of n, wherever what Tell writes is short enough to be a number.
func TestRoundTrip(t *testing.T) {
	r := rand.New(rand.NewSource(3))
	check := func(n api.Num) {
		s := api.Settings{Digits: randomDigits(r), Form: r.Intn(2)}
		text, _ := dec.Tell(n, s)
		back, e := dec.Read(text)
		if len(text) <= api.MaxString && (e != api.OK || ratOf(back).Cmp(ratOf(n)) != 0) {
			t.Fatalf("Read(Tell(%v, %v)) = Read(%q): %v %v", n, s, text, back, e)
		}
	}
	for range 20000 {
		check(randomNum(r, 60))
	}
	for range 50 {
		check(randomNum(r, api.MaxString))
	}
	for _, n := range goodNums() {
		check(n)
	}
}
