package text_test

import (
	"fmt"
	"strings"
	"testing"

	"qanat/api"
	"qanat/text"
)

// args are arguments of a function: its strings, its integers, and its pads (of BitAnd and the like: its integers).
type args struct {
	s    []string
	n    []int
	pads []byte
}

// function is one of the package, with arguments that it accepts, and the least value of each integer; missing tells whether the last one may be Missing.
type function struct {
	name    string
	call    func(a args) (string, api.Errno)
	good    args
	least   []int
	missing bool
}

// told makes a text of a result that is not a string; the zero value is the empty one.
func told[T comparable](x T, e api.Errno) (string, api.Errno) {
	var zero T
	if x == zero {
		return "", e
	}
	return fmt.Sprint(x), e
}

// functions returns the functions that take pads or integers.
func functions() []function {
	return []function{
		{"Abbrev", func(a args) (string, api.Errno) { return told(text.Abbrev(a.s[0], a.s[1], a.n[0])) }, args{[]string{"abc", "ab"}, []int{1}, nil}, []int{0}, false},
		{"Center", func(a args) (string, api.Errno) { return text.Center(a.s[0], a.n[0], a.pads[0]) }, args{[]string{"abc"}, []int{5}, []byte{'.'}}, []int{0}, false},
		{"Compare", func(a args) (string, api.Errno) { return told(text.Compare(a.s[0], a.s[1], a.pads[0])) }, args{[]string{"a", "b"}, nil, []byte{'.'}}, nil, false},
		{"Copies", func(a args) (string, api.Errno) { return text.Copies(a.s[0], a.n[0]) }, args{[]string{"a"}, []int{2}, nil}, []int{0}, false},
		{"DelStr", func(a args) (string, api.Errno) { return text.DelStr(a.s[0], a.n[0], a.n[1]) }, args{[]string{"abc"}, []int{2, 1}, nil}, []int{1, 0}, true},
		{"DelWord", func(a args) (string, api.Errno) { return text.DelWord(a.s[0], a.n[0], a.n[1]) }, args{[]string{"a b"}, []int{2, 1}, nil}, []int{1, 0}, true},
		{"Insert", func(a args) (string, api.Errno) { return text.Insert(a.s[0], a.s[1], a.n[0], a.n[1], a.pads[0]) }, args{[]string{"a", "b"}, []int{1, 2}, []byte{'.'}}, []int{0, 0}, true},
		{"LastPos", func(a args) (string, api.Errno) { return told(text.LastPos(a.s[0], a.s[1], a.n[0])) }, args{[]string{"a", "a"}, []int{1}, nil}, []int{1}, true},
		{"Left", func(a args) (string, api.Errno) { return text.Left(a.s[0], a.n[0], a.pads[0]) }, args{[]string{"abc"}, []int{5}, []byte{'.'}}, []int{0}, false},
		{"Overlay", func(a args) (string, api.Errno) { return text.Overlay(a.s[0], a.s[1], a.n[0], a.n[1], a.pads[0]) }, args{[]string{"a", "b"}, []int{1, 2}, []byte{'.'}}, []int{1, 0}, true},
		{"Pos", func(a args) (string, api.Errno) { return told(text.Pos(a.s[0], a.s[1], a.n[0])) }, args{[]string{"a", "a"}, []int{1}, nil}, []int{1}, false},
		{"Right", func(a args) (string, api.Errno) { return text.Right(a.s[0], a.n[0], a.pads[0]) }, args{[]string{"abc"}, []int{5}, []byte{'.'}}, []int{0}, false},
		{"Space", func(a args) (string, api.Errno) { return text.Space(a.s[0], a.n[0], a.pads[0]) }, args{[]string{"a b"}, []int{1}, []byte{'.'}}, []int{0}, false},
		{"Strip", func(a args) (string, api.Errno) { return text.Strip(a.s[0], a.n[0], a.pads[0]) }, args{[]string{".a"}, []int{api.SideBoth}, []byte{'.'}}, []int{0}, false},
		{"Substr", func(a args) (string, api.Errno) { return text.Substr(a.s[0], a.n[0], a.n[1], a.pads[0]) }, args{[]string{"abc"}, []int{2, 1}, []byte{'.'}}, []int{1, 0}, true},
		{"Subword", func(a args) (string, api.Errno) { return text.Subword(a.s[0], a.n[0], a.n[1]) }, args{[]string{"a b"}, []int{2, 1}, nil}, []int{1, 0}, true},
		{"Translate", func(a args) (string, api.Errno) { return text.Translate(a.s[0], a.s[1], a.s[2], a.pads[0]) }, args{[]string{"abc", "1", "a"}, nil, []byte{'.'}}, nil, false},
		{"Verify", func(a args) (string, api.Errno) { return told(text.Verify(a.s[0], a.s[1], true, a.n[0])) }, args{[]string{"abc", "a"}, []int{1}, nil}, []int{1}, false},
		{"Word", func(a args) (string, api.Errno) { return text.Word(a.s[0], a.n[0]) }, args{[]string{"a b"}, []int{1}, nil}, []int{1}, false},
		{"WordIndex", func(a args) (string, api.Errno) { return told(text.WordIndex(a.s[0], a.n[0])) }, args{[]string{"a b"}, []int{1}, nil}, []int{1}, false},
		{"WordLength", func(a args) (string, api.Errno) { return told(text.WordLength(a.s[0], a.n[0])) }, args{[]string{"a b"}, []int{1}, nil}, []int{1}, false},
		{"WordPos", func(a args) (string, api.Errno) { return told(text.WordPos(a.s[0], a.s[1], a.n[0])) }, args{[]string{"a", "a b"}, []int{1}, nil}, []int{1}, false},
		{"BitAnd", func(a args) (string, api.Errno) { return text.BitAnd(a.s[0], a.s[1], a.n[0]) }, args{[]string{"ab", "a"}, []int{'b'}, nil}, []int{32}, true},
		{"BitOr", func(a args) (string, api.Errno) { return text.BitOr(a.s[0], a.s[1], a.n[0]) }, args{[]string{"ab", "a"}, []int{'b'}, nil}, []int{32}, true},
		{"BitXor", func(a args) (string, api.Errno) { return text.BitXor(a.s[0], a.s[1], a.n[0]) }, args{[]string{"ab", " "}, []int{' '}, nil}, []int{32}, true},
	}
}

// stringFunctions returns the functions that take strings alone.
func stringFunctions() []function {
	one := func(call func(string) (string, api.Errno)) func(a args) (string, api.Errno) {
		return func(a args) (string, api.Errno) { return call(a.s[0]) }
	}
	return []function{
		{"Change", func(a args) (string, api.Errno) { return text.Change(a.s[0], a.s[1], a.s[2]) }, args{[]string{"a", "abc", "b"}, nil, nil}, nil, false},
		{"Count", func(a args) (string, api.Errno) { return told(text.Count(a.s[0], a.s[1])) }, args{[]string{"a", "abc"}, nil, nil}, nil, false},
		{"Reverse", one(text.Reverse), args{[]string{"abc"}, nil, nil}, nil, false},
		{"Upper", one(text.Upper), args{[]string{"abc"}, nil, nil}, nil, false},
		{"Lower", one(text.Lower), args{[]string{"abc"}, nil, nil}, nil, false},
		{"Words", func(a args) (string, api.Errno) { return told(text.Words(a.s[0])) }, args{[]string{"a b"}, nil, nil}, nil, false},
		{"C2X", one(text.C2X), args{[]string{"abc"}, nil, nil}, nil, false},
		{"X2C", one(text.X2C), args{[]string{"6162"}, nil, nil}, nil, false},
		{"B2X", one(text.B2X), args{[]string{"1111"}, nil, nil}, nil, false},
		{"X2B", one(text.X2B), args{[]string{"61"}, nil, nil}, nil, false},
	}
}

// with returns list with one element replaced.
func with[T any](list []T, k int, x T) []T {
	changed := append([]T(nil), list...)
	changed[k] = x
	return changed
}

// P2.2 to P2.13: each argument of each function in turn is just out of its range, and just in it.
func TestArguments(t *testing.T) {
	for _, f := range append(functions(), stringFunctions()...) {
		if s, e := f.call(f.good); e != api.OK || s == "" {
			t.Fatalf("%s %v: %q, %v", f.name, f.good, s, e)
		}
		for k := range f.good.s {
			for _, bad := range []string{"\x1f", "a\x7f", "\n", "\x00b", "é", line(1001), "6\xff"} {
				s, e := f.call(args{with(f.good.s, k, bad), f.good.n, f.good.pads})
				wantError(t, fmt.Sprintf("%s, string %d %.5q", f.name, k, bad), s, e, api.ErrArg)
			}
		}
		for k, n := range f.good.pads {
			for _, bad := range []byte{0, 31, 127, 128, 255} {
				s, e := f.call(args{f.good.s, f.good.n, with(f.good.pads, k, bad)})
				wantError(t, fmt.Sprintf("%s, pad %d instead of %d", f.name, bad, n), s, e, api.ErrArg)
			}
			for _, good := range []byte{32, 126} {
				if _, e := f.call(args{f.good.s, f.good.n, with(f.good.pads, k, good)}); e != api.OK {
					t.Errorf("%s, pad %d: %v", f.name, good, e)
				}
			}
		}
		for k, least := range f.least {
			bad := []int{-2, -huge - 1}
			missing := f.missing && k == len(f.least)-1
			if !missing || least-1 != api.Missing {
				bad = append(bad, least-1)
			}
			if missing {
				if _, e := f.call(args{f.good.s, with(f.good.n, k, api.Missing), f.good.pads}); e != api.OK {
					t.Errorf("%s, Missing: %v", f.name, e)
				}
			}
			for _, n := range bad {
				s, e := f.call(args{f.good.s, with(f.good.n, k, n), f.good.pads})
				wantError(t, fmt.Sprintf("%s, integer %d %d", f.name, k, n), s, e, api.ErrArg)
			}
			if _, e := f.call(args{f.good.s, with(f.good.n, k, least), f.good.pads}); e == api.ErrArg {
				t.Errorf("%s, integer %d %d: %v", f.name, k, least, e)
			}
		}
	}
}

// P2.5 and P2.12: integers that are too great, or between their ranges.
func TestArgumentsAbove(t *testing.T) {
	for _, side := range []int{-1, 3, 4, huge} {
		s, e := text.Strip("a", side, ' ')
		wantError(t, fmt.Sprintf("Strip, side %d", side), s, e, api.ErrArg)
	}
	for _, pad := range []int{-2, 0, 1, 31, 127, 128, 255, 256, 256 + 'a', huge} {
		for _, call := range []func(a, b string, pad int) (string, api.Errno){text.BitAnd, text.BitOr, text.BitXor} {
			s, e := call("ab", "a", pad)
			wantError(t, fmt.Sprintf("bits, pad %d", pad), s, e, api.ErrArg)
		}
	}
	for _, pad := range []int{api.Missing, 32, 126} {
		if _, e := text.BitOr("~b", "~", pad); e != api.OK {
			t.Errorf("BitOr, pad %d: %v", pad, e)
		}
	}
}

// P2.2 to P2.13: results of MaxString bytes are told, longer ones are not.
func TestLimits(t *testing.T) {
	for _, c := range []struct {
		name string
		call func(n int) (string, api.Errno) // a result of n bytes
	}{
		{"Left", func(n int) (string, api.Errno) { return text.Left("abc", n, ' ') }},
		{"Right", func(n int) (string, api.Errno) { return text.Right("abc", n, ' ') }},
		{"Center", func(n int) (string, api.Errno) { return text.Center("abc", n, ' ') }},
		{"Substr", func(n int) (string, api.Errno) { return text.Substr("abc", 2, n, ' ') }},
		{"Insert, a great n", func(n int) (string, api.Errno) { return text.Insert("abc", "de", n-3, api.Missing, ' ') }},
		{"Insert, a great length", func(n int) (string, api.Errno) { return text.Insert("abc", line(400), 2, n-400, ' ') }},
		{"Insert, both", func(n int) (string, api.Errno) { return text.Insert(line(500), "de", n-500, api.Missing, ' ') }},
		{"Overlay, a great n", func(n int) (string, api.Errno) { return text.Overlay("abc", "de", n-2, api.Missing, ' ') }},
		{"Overlay, a great length", func(n int) (string, api.Errno) { return text.Overlay("abc", line(400), 301, n-300, ' ') }},
		{"Overlay, nothing", func(n int) (string, api.Errno) { return text.Overlay("", "de", n+1, api.Missing, ' ') }},
		{"Copies", func(n int) (string, api.Errno) { return text.Copies("a", n) }},
		{"Space", func(n int) (string, api.Errno) { return text.Space(" a b ", n-2, ' ') }},
	} {
		for _, n := range []int{999, 1000} {
			if s, e := c.call(n); e != api.OK || len(s) != n {
				t.Errorf("%s: %d bytes, %v; want %d", c.name, len(s), e, n)
			}
		}
		for _, n := range []int{1001, 1500, huge - 2} {
			s, e := c.call(n)
			wantError(t, fmt.Sprintf("%s %d", c.name, n), s, e, api.ErrLimit)
		}
	}
}

// P2.4, P2.6, P2.10, P2.13: limits that several arguments decide together.
func TestLimitsOfSums(t *testing.T) {
	check := func(name string, s string, e api.Errno, want int) {
		t.Helper()
		if want > 1000 {
			wantError(t, name, s, e, api.ErrLimit)
		} else if e != api.OK || len(s) != want {
			t.Errorf("%s: %d bytes, %v; want %d", name, len(s), e, want)
		}
	}
	s, e := text.Copies("abc", 333)
	check("Copies", s, e, 999)
	s, e = text.Copies("abc", 334)
	check("Copies", s, e, 1002)
	s, e = text.Copies("ab", huge)
	check("Copies", s, e, huge)
	s, e = text.Change("a", line(996)+"aaaa", "a")
	check("Change", s, e, 1000)
	s, e = text.Change("a", line(995)+"aaaa", "bb")
	check("Change", s, e, 1003)
	s, e = text.Change("a", line(992)+"aaaa", "bb")
	check("Change", s, e, 1000)
	s, e = text.Change("xx", line(1000), "x")
	check("Change", s, e, 500)
	s, e = text.Change("x", line(1000), line(1000))
	check("Change", s, e, 1000000)
	s, e = text.Space(strings.Repeat("a ", 500), 1, ' ')
	check("Space", s, e, 999)
	s, e = text.Space(strings.Repeat("a ", 500), 2, ' ')
	check("Space", s, e, 1498)
	s, e = text.Space("a "+line(900)+" b", 49, ' ')
	check("Space", s, e, 1000)
	s, e = text.Space("a "+line(900)+" b", 50, ' ')
	check("Space", s, e, 1002)
	s, e = text.Space("a b c", 1<<62, ' ')
	check("Space", s, e, huge)
	s, e = text.Insert("", line(1000), 7, 1, ' ')
	check("Insert", s, e, 1001)
	s, e = text.Insert("abc", "", huge, huge, ' ')
	check("Insert", s, e, huge)
	s, e = text.Overlay("abc", "", huge, huge, ' ')
	check("Overlay", s, e, huge)
	s, e = text.Overlay("abc", line(1000), 1, huge, ' ')
	check("Overlay", s, e, huge)
	s, e = text.C2X(line(500))
	check("C2X", s, e, 1000)
	s, e = text.C2X(line(501))
	check("C2X", s, e, 1002)
	s, e = text.X2B(strings.Repeat("f", 250))
	check("X2B", s, e, 1000)
	s, e = text.X2B(strings.Repeat("f", 251))
	check("X2B", s, e, 1004)
	s, e = text.X2B(strings.Repeat("ff  ", 125) + "ff")
	check("X2B", s, e, 1008)
	s, e = text.X2C(strings.Repeat("61", 500))
	check("X2C", s, e, 500)
	s, e = text.B2X(strings.Repeat("1", 1000))
	check("B2X", s, e, 250)
}

// Of several errors the first one is told: ErrArg before ErrLimit.
func TestOrderOfErrors(t *testing.T) {
	s, e := text.Left("\x01", 1001, ' ')
	wantError(t, "Left", s, e, api.ErrArg)
	s, e = text.Left("a", 1001, 5)
	wantError(t, "Left", s, e, api.ErrArg)
	s, e = text.Copies("\n", huge)
	wantError(t, "Copies", s, e, api.ErrArg)
	s, e = text.Insert("\n", "a", huge, -2, ' ')
	wantError(t, "Insert", s, e, api.ErrArg)
	s, e = text.Overlay("a", "a", huge, -2, ' ')
	wantError(t, "Overlay", s, e, api.ErrArg)
	s, e = text.Substr("a", 0, 1001, ' ')
	wantError(t, "Substr", s, e, api.ErrArg)
	s, e = text.Space("a b", huge, 200)
	wantError(t, "Space", s, e, api.ErrArg)
	s, e = text.X2B(strings.Repeat("f", 999) + "g")
	wantError(t, "X2B", s, e, api.ErrArg)
	s, e = text.X2C("04 6g")
	wantError(t, "X2C", s, e, api.ErrArg)
	s, e = text.BitXor("A", "A\n", api.Missing)
	wantError(t, "BitXor", s, e, api.ErrArg)
	s, e = text.BitXor("A", "A", 31)
	wantError(t, "BitXor", s, e, api.ErrArg)
}
