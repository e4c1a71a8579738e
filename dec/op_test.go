package dec_test

import (
	"math/rand"
	"sort"
	"strings"
	"testing"

	"qanat/api"
	"qanat/dec"
)

var nine = api.Settings{Digits: 9}

// P1.9: arithmetic on named strings.
func TestOpArithmetic(t *testing.T) {
	long := strings.Repeat("1", api.MaxString+1)
	for _, c := range []struct {
		a, op, b, want string
		code           int
		s              api.Settings
	}{
		{"1.20", "+", "0.30", "1.50", 0, nine}, {" 1 ", "+", " - 3 ", "-2", 0, nine}, {"1", "-", "1.00", "0", 0, nine}, {"1.5", "*", "2", "3.0", 0, nine},
		{"1", "/", "3", "0.333333333", 0, nine}, {"2", "/", "3", "0.667", 0, api.Settings{Digits: 3}}, {"100", "/", "1", "100", 0, nine}, {"1", "/", "3", "0." + strings.Repeat("3", 40), 0, api.Settings{Digits: 40}},
		{"7", "%", "-2", "-3", 0, nine}, {"-7", "//", "2", "-1", 0, nine}, {"7.5", "//", "2", "1.5", 0, nine}, {"2", "**", "-3", "0.125", 0, nine}, {"2", "**", "3.0", "8", 0, nine}, {"0", "**", "0", "1", 0, nine},
		{"1000000000", "+", "1", "1.00000000E+9", 0, nine}, {"1000000000", "+", "1", "1000000001", 0, api.Settings{Digits: 10}}, {"0", "+", "1E12", "1E+12", 0, nine}, {"0", "+", "1E13", "10E+12", 0, api.Settings{Digits: 9, Form: 1}},
		{"12345", "+", "0", "1.23E+4", 0, api.Settings{Digits: 3}}, {"12345", "+", "0", "12.3E+3", 0, api.Settings{Digits: 3, Form: 1}},
		// FUZZ does not matter to arithmetic.
		{"1", "/", "3", "0.333333333", 0, api.Settings{Digits: 9, Fuzz: 5}},
		{"a", "+", "1", "", 41, nine}, {"1", "+", "a", "", 41, nine}, {"", "-", "1", "", 41, nine}, {"1", "*", "", "", 41, nine}, {"1 2", "/", "1", "", 41, nine}, {"a", "/", "0", "", 41, nine}, {"a", "%", "0", "", 41, nine}, {"1", "//", "1E1000", "", 41, nine},
		{"a", "**", "1.5", "", 41, nine}, {"2", "**", "a", "", 41, nine}, {"2", "**", "", "", 41, nine}, {long, "+", "1", "", 41, nine}, {"1", "+", long, "", 41, nine}, {"1\x00", "+", "\xff", "", 41, nine},
		{"1", "/", "0", "", 42, nine}, {"1", "%", "0.0", "", 42, nine}, {"0", "//", "0", "", 42, nine}, {"0", "**", "-1", "", 42, nine},
		{"9E999", "*", "10", "", 42, nine}, {"9E999", "+", "9E999", "", 42, nine}, {"-9E999", "-", "9E999", "", 42, nine}, {"1E-999", "/", "10", "", 42, nine}, {"1E500", "**", "2", "", 42, nine}, {"1.1E-999", "//", "1E-999", "", 42, nine},
		{"9.9999999999E999", "+", "0", "", 42, nine}, {"9.9999999999E999", "/", "9E900", "", 42, nine},
		{"1E12", "%", "1", "", 26, nine}, {"1E12", "//", "1", "", 26, nine}, {"2", "**", "1.5", "", 26, nine}, {"2", "**", "0.1", "", 26, nine}, {"0", "**", "-1.5", "", 26, nine}, {"2", "**", "1E12", "", 26, nine},
		{"2", "**", "101", "", 42, nine}, {"2", "**", "-101", "", 42, nine}, {"1", "**", "999999999", "", 42, nine}, {"1", "**", "1E12", "", 42, api.Settings{Digits: 20}}, {"1", "**", "100", "1", 0, nine}, {"1", "**", "-1E2", "1", 0, nine},
		// A whole number has at most DIGITS digits; the exponent is not rounded first.
		{"2", "**", "10", "", 26, api.Settings{Digits: 1}}, {"2", "**", "3.01", "", 26, api.Settings{Digits: 2}}, {"2", "**", "3.00", "8", 0, api.Settings{Digits: 1}}, {"2", "**", "100", "", 26, api.Settings{Digits: 2}},
	} {
		if text, code, e := dec.Op(c.op, c.a, c.b, c.s); text != c.want || code != c.code || e != api.OK {
			t.Errorf("Op %.30q %s %.30q with %v: %q %d %v, want %q %d", c.a, c.op, c.b, c.s, text, code, e, c.want, c.code)
		}
	}
}

// P1.9: the comparisons of named operands, each with all six operators.
func TestOpComparisons(t *testing.T) {
	long := strings.Repeat("0", api.MaxString)
	for _, c := range []struct {
		a, b string
		want int
		s    api.Settings
	}{
		{" 1.0 ", "1", 0, nine}, {"-0", "0E9", 0, nine}, {"9", "10", -1, nine}, {"-1", "1E-900", -1, nine}, {"1E3", "1000", 0, nine}, {"1234567891", "1234567892", 0, nine},
		{"1234567", "1234568", 0, api.Settings{Digits: 9, Fuzz: 3}}, {"1234567", "1234568", -1, nine},
		{"a ", "a", 0, nine}, {"  a", "a  ", 0, nine}, {"", "   ", 0, nine}, {"a", "b", -1, nine}, {"9", "a", -1, nine}, {"10", "9a", -1, nine}, {"a", "A", 1, nine}, {"", "0", -1, nine}, {"ab", "a", 1, nine}, {"a b", "ab", -1, nine},
		// The shorter one is padded with blanks, which are greater than some bytes.
		{"a", "a\x01", 1, nine}, {"a", "a\x1f", 1, nine}, {"a", "a!", -1, nine}, {"", "\x01", 1, nine}, {"\xff", "a", 1, nine}, {"\tx", "x", -1, nine}, {"a\n", "a", -1, nine}, {"1", "1\x00", 1, nine},
		// What is too long is not a number.
		{long + "1", "1", -1, nine}, {"1 ", long + "1", 1, nine}, {"1", "1E1000", -1, nine}, {"1E1000", "1E1000", 0, nine}, {strings.Repeat("x", 5000), strings.Repeat("x", 4999), 1, nine},
	} {
		for op, want := range map[string]bool{"=": c.want == 0, "\\=": c.want != 0, ">": c.want > 0, "<": c.want < 0, ">=": c.want >= 0, "<=": c.want <= 0} {
			wanted := "0"
			if want {
				wanted = "1"
			}
			if text, code, e := dec.Op(op, c.a, c.b, c.s); text != wanted || code != 0 || e != api.OK {
				t.Errorf("Op %.30q %s %.30q with %v: %q %d %v, want %q", c.a, op, c.b, c.s, text, code, e, wanted)
			}
		}
	}
	for _, op := range []string{"=", "\\=", ">", "<", ">=", "<="} {
		for _, pair := range [][2]string{{"9.9999999999E999", "1"}, {"1", "-9.9999999999E999"}} {
			if text, code, e := dec.Op(op, pair[0], pair[1], nine); text != "" || code != 42 || e != api.OK {
				t.Errorf("Op %q %s %q: %q %d %v, want code 42", pair[0], op, pair[1], text, code, e)
			}
		}
	}
}

// P1.9: prefix operators.
func TestFront(t *testing.T) {
	for _, c := range []struct {
		op, a, want string
		code        int
		s           api.Settings
	}{
		{"+", " 1.0 ", "1.0", 0, nine}, {"+", "-5", "-5", 0, nine}, {"+", "12345", "1.23E+4", 0, api.Settings{Digits: 3}}, {"-", "1.0", "-1.0", 0, nine}, {"-", "-007", "7", 0, nine}, {"-", "0", "0", 0, nine}, {"-", "0.00", "0", 0, nine}, {"+", "0.00", "0", 0, nine},
		{"-", "1E12", "-1E+12", 0, nine}, {"+", "a", "", 41, nine}, {"-", "", "", 41, nine}, {"+", strings.Repeat("1", 1001), "", 41, nine}, {"-", "9.9999999999E999", "", 42, nine},
		{"\\", "0", "1", 0, nine}, {"\\", "1", "0", 0, nine}, {"\\", "2", "", 34, nine}, {"\\", "", "", 34, nine}, {"\\", " 1", "", 34, nine}, {"\\", "1.0", "", 34, nine}, {"\\", "01", "", 34, nine}, {"\\", "\x00", "", 34, nine},
	} {
		if text, code, e := dec.Front(c.op, c.a, c.s); text != c.want || code != c.code || e != api.OK {
			t.Errorf("Front %s %.30q with %v: %q %d %v, want %q %d", c.op, c.a, c.s, text, code, e, c.want, c.code)
		}
	}
}

// P1.9: other operators.
func TestOtherOperators(t *testing.T) {
	for _, op := range []string{"", " ", "||", "==", "\\==", ">>", "<<", ">>=", "<<=", "><", "<>", "\\>", "\\<", "&", "|", "&&", "\\", "+ ", "=+", "***", "^", "\xff"} {
		if text, code, e := dec.Op(op, "1", "1", nine); text != "" || code != 0 || e != api.ErrArg {
			t.Errorf("Op %q: %q %d %v", op, text, code, e)
		}
	}
	for _, op := range []string{"", "*", "/", "%", "//", "**", "=", "\\=", "&", "++", "--", "\\\\", "- ", "\xff"} {
		if text, code, e := dec.Front(op, "1", nine); text != "" || code != 0 || e != api.ErrArg {
			t.Errorf("Front %q: %q %d %v", op, text, code, e)
		}
	}
}

// P1.9: for arbitrary strings Op has exactly one of a result and a code, and the result is what the functions of numbers say.
func TestOpRandom(t *testing.T) {
	r := rand.New(rand.NewSource(12))
	functions := map[string]func(a, b api.Num, digits int) (api.Num, api.Errno){
		"+": dec.Add, "-": dec.Sub, "*": dec.Mul, "%": dec.IDiv, "//": dec.Rem,
		"/": func(a, b api.Num, digits int) (api.Num, api.Errno) {
			n, _, e := dec.Div(a, b, digits)
			return n, e
		},
	}
	ops := make([]string, 0, len(functions))
	for op := range functions {
		ops = append(ops, op)
	}
	sort.Strings(ops)
	draw := func() string {
		text := make([]byte, r.Intn(7))
		for i := range text {
			text[i] = "0123456789.-E \x00\xffa"[r.Intn(17)]
		}
		return string(text)
	}
	for range 60000 {
		op, a, b := ops[r.Intn(len(ops))], draw(), draw()
		s := api.Settings{Digits: randomDigits(r), Form: r.Intn(2)}
		want, wantCode := "", 41
		x, e := dec.Read(a)
		y, f := dec.Read(b)
		if e == api.OK && f == api.OK {
			n, e := functions[op](x, y, s.Digits)
			want, _ = dec.Tell(n, s)
			wantCode = map[api.Errno]int{api.OK: 0, api.ErrZero: 42, api.ErrRange: 42, api.ErrWhole: 26}[e]
		}
		if text, code, e := dec.Op(op, a, b, s); text != want || code != wantCode || e != api.OK {
			t.Fatalf("Op %q %s %q with %v: %q %d %v, want %q %d", a, op, b, s, text, code, e, want, wantCode)
		}
	}
}
