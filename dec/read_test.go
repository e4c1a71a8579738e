package dec_test

import (
	"math/big"
	"math/rand"
	"regexp"
	"strconv"
	"strings"
	"testing"

	"qanat/api"
	"qanat/dec"
)

// P1.1: numbers and what is none.
func TestRead(t *testing.T) {
	for _, c := range []struct {
		text string
		want api.Num
	}{
		{"  - 012.50e1", num(true, "1250", -1)}, {"0", zero}, {"-0", zero}, {"+0.000", zero}, {"0E5", zero}, {"-.0e-7", zero},
		{"-0.00E9999", zero}, {"0E99999999999999999999999999999999", zero}, {"0E-99999999999999999999999999999999", zero},
		{"1", num(false, "1", 0)}, {"+1", num(false, "1", 0)}, {"-1", num(true, "1", 0)}, {"  +   1  ", num(false, "1", 0)},
		{"5.", num(false, "5", 0)}, {".5", num(false, "5", -1)}, {"0.50", num(false, "50", -2)}, {"5.E2", num(false, "5", 2)},
		{"00100", num(false, "100", 0)}, {"1.20", num(false, "120", -2)}, {"12e+3", num(false, "12", 3)}, {"12E-3", num(false, "12", -3)},
		{"1E999", num(false, "1", 999)}, {"1E-999", num(false, "1", -999)}, {"10E-1000", num(false, "10", -1000)}, {".1E1000", num(false, "1", 999)},
		{"0.001E1002", num(false, "1", 999)}, {"1E0000000000000000000000000999", num(false, "1", 999)}, {"9.99E999", num(false, "999", 997)},
		{strings.Repeat(" ", 999) + "7", num(false, "7", 0)}, {strings.Repeat("0", 999) + "7", num(false, "7", 0)},
		{strings.Repeat("9", 1000), num(false, nines(1000), 0)}, {"." + strings.Repeat("0", 998) + "4", num(false, "4", -999)},
	} {
		if n, e := dec.Read(c.text); e != api.OK || n != c.want {
			t.Errorf("Read(%.40q): %v %v, want %v", c.text, n, e, c.want)
		}
	}
	for _, text := range []string{
		"", " ", "+", "-", "- ", ".", "+.", "E", "E1", ".E1", "1E", "1E+", "1E-", "1e+", "1E 1", "1 E1", "1E+ 1", "1E1.", "1E1.5", "1E++1",
		"1 2", "1..2", "1.2.3", "1 .2", "+-1", "--1", "1-", "1+1", "a", "1a", "0x1", "1,5", "1_0", "\t1", "1\n", "1\x00", "\x001", "1\u00a0", "\u0661", "inf", "nan",
		"1E1000", "1E-1000", "10E999", "0.1E-999", "-1E1000", "1E99999999999999999999", "1E-99999999999999999999", "1E18446744073709551616",
		strings.Repeat("0", 1001), strings.Repeat(" ", 1000) + "1", "1" + strings.Repeat(" ", 1000), "." + strings.Repeat("0", 999) + "4",
	} {
		if n, e := dec.Read(text); e != api.ErrForm || n != (api.Num{}) {
			t.Errorf("Read(%.40q): %v %v, want ErrForm", text, n, e)
		}
	}
}

// P1.1: Read against a regular expression and big numbers, for random strings.
func TestReadRandom(t *testing.T) {
	form := regexp.MustCompile(`^ *([+-]?) *(?:([0-9]+)\.?([0-9]*)|\.([0-9]+))(?:[Ee]([+-]?[0-9]+))? *$`)
	r := rand.New(rand.NewSource(1))
	good := 0
	for range 200000 {
		text := make([]byte, r.Intn(9))
		for i := range text {
			text[i] = " +-..0019eE"[r.Intn(11)]
		}
		n, e := dec.Read(string(text))
		part := form.FindStringSubmatch(string(text))
		if part == nil {
			if e != api.ErrForm || n != (api.Num{}) {
				t.Fatalf("Read(%q): %v %v, want ErrForm", text, n, e)
			}
			continue
		}
		after := part[3] + part[4]
		exp, _ := strconv.Atoi(part[5])
		i, _ := new(big.Int).SetString(part[1]+part[2]+after, 10)
		want := exact{i, exp - len(after)}
		if outOfRange(want) {
			if e != api.ErrForm || n != (api.Num{}) {
				t.Fatalf("Read(%q): %v %v, want ErrForm", text, n, e)
			}
			continue
		}
		good++
		if e != api.OK || n != numOf(want) {
			t.Fatalf("Read(%q): %v %v, want %v", text, n, e, numOf(want))
		}
	}
	if good < 1000 {
		t.Error("too few numbers:", good)
	}
}

// P1.1: every byte beside the expected ones is refused, at every place.
func TestReadBytes(t *testing.T) {
	for _, c := range []struct{ before, after, allowed string }{
		{"", "1", " +-.0123456789"}, {"+", "1", " .0123456789"}, {"1", "1", ".Ee0123456789"}, {"1", "", " .0123456789"},
		{"1.", "", " 0123456789"}, {"1E", "1", "+-0123456789"}, {"1E1", "", " 0123456789"}, {"1 ", "", " "},
	} {
		for b := range 256 {
			text := c.before + string([]byte{byte(b)}) + c.after
			want := strings.IndexByte(c.allowed, byte(b)) >= 0
			if _, e := dec.Read(text); want != (e == api.OK) || !want && e != api.ErrForm {
				t.Errorf("Read(%q): %v", text, e)
			}
		}
	}
}

// P1.1: Check.
func TestCheck(t *testing.T) {
	for _, n := range goodNums() {
		if e := dec.Check(n); e != api.OK {
			t.Errorf("Check(%.40v): %v", n, e)
		}
	}
	for _, n := range badNums() {
		if e := dec.Check(n); e != api.ErrArg {
			t.Errorf("Check(%.40v): %v", n, e)
		}
	}
}
