package text_test

import (
	"encoding/hex"
	"fmt"
	"math/big"
	"strings"
	"testing"

	"qanat/api"
	"qanat/text"
)

// P2.11: all bytes, of which only the letters change.
func TestUpperLower(t *testing.T) {
	s, e := text.Upper(allBytes())
	wantText(t, "Upper", s, e, strings.ToUpper(allBytes()))
	s, e = text.Lower(allBytes())
	wantText(t, "Lower", s, e, strings.ToLower(allBytes()))
	s, e = text.Upper("")
	wantText(t, "Upper of nothing", s, e, "")
	s, e = text.Lower("")
	wantText(t, "Lower of nothing", s, e, "")
}

// P2.11, with an out that is shorter, longer, or empty, and bytes that occur twice in in.
func TestTranslate(t *testing.T) {
	for _, c := range []struct {
		s, out, in string
		pad        byte
		want       string
	}{
		{"abcdef", "12", "ec", '.', "ab2d1f"}, {"abcdef", "12", "abcd", '.', "12..ef"}, {"abcdef", "1", "", '.', "abcdef"},
		{"abcdef", "", "ab", '.', "..cdef"}, {"abcdef", "12345", "ab", '.', "12cdef"}, {"abab", "12", "aa", '.', "1b1b"},
		{"abab", "1", "aba", '-', "1-1-"}, {"abba", "ba", "ab", '.', "baab"}, {"", "1", "a", '.', ""}, {"4123", "abcd", "1234", ' ', "dabc"},
		{"~ ~", " ~", "~ ", '.', " ~ "},
	} {
		s, e := text.Translate(c.s, c.out, c.in, c.pad)
		wantText(t, fmt.Sprintf("Translate %+v", c), s, e, c.want)
	}
	r := newSource(211)
	for range 2000 {
		s, out, in, pad := r.text("abcd", 9), r.any(6), r.text("abcd", 6), r.pad()
		want := []byte(s)
		for k := range want {
			if p := strings.IndexByte(in, s[k]); p >= 0 {
				want[k] = at(out, p+1, pad)
			}
		}
		got, e := text.Translate(s, out, in, pad)
		wantText(t, fmt.Sprintf("Translate %q %q %q", s, out, in), got, e, string(want))
	}
}

// P2.11: all pairs of bytes.
func TestXrange(t *testing.T) {
	s, e := text.Xrange('y', '!')
	wantText(t, "Xrange", s, e, "yz{|}~ !")
	s, e = text.Xrange('a', 'f')
	wantText(t, "Xrange", s, e, "abcdef")
	ring := allBytes() + allBytes()
	for from := range 256 {
		for to := range 256 {
			s, e := text.Xrange(byte(from), byte(to))
			call := fmt.Sprintf("Xrange %d, %d", from, to)
			if from < 32 || from > 126 || to < 32 || to > 126 {
				wantError(t, call, s, e, api.ErrArg)
				continue
			}
			wantText(t, call, s, e, ring[from-32:from-32+(to-from+95)%95+1])
		}
	}
}

// P2.12, with the longer string on either side, with and without pad.
func TestBits(t *testing.T) {
	for _, c := range []struct {
		call    func(a, b string, pad int) (string, api.Errno)
		a, b    string
		pad     int
		want    string
		problem api.Errno
	}{
		{text.BitAnd, "sky", "_", api.Missing, "Sky", api.OK},
		{text.BitAnd, "_", "sky", api.Missing, "Sky", api.OK},
		{text.BitAnd, "sky", "_", '_', "SKY", api.OK},
		{text.BitAnd, "_", "sky", '_', "SKY", api.OK},
		{text.BitAnd, "", "sky", '_', "SKY", api.OK},
		{text.BitAnd, "a", "b", api.Missing, "`", api.OK},
		{text.BitAnd, "A", "\"", api.Missing, "", api.ErrRange},
		{text.BitAnd, "aA", "\"", 'a', " A", api.OK},
		{text.BitAnd, "aA", "\"", ' ', "", api.ErrRange},
		{text.BitOr, "SKY", "   ", api.Missing, "sky", api.OK},
		{text.BitOr, "SKY", " ", api.Missing, "sKY", api.OK},
		{text.BitOr, "SKY", "", ' ', "sky", api.OK},
		{text.BitOr, "A", "?", api.Missing, "", api.ErrRange},
		{text.BitOr, "A", ">", api.Missing, "", api.ErrRange},
		{text.BitXor, "A", "A", api.Missing, "", api.ErrRange},
		{text.BitXor, "sky", "   ", api.Missing, "SKY", api.OK},
		{text.BitXor, "sky", "", ' ', "SKY", api.OK},
		{text.BitXor, "", "sky", api.Missing, "sky", api.OK},
		{text.BitXor, "A", "a", api.Missing, " ", api.OK},
		{text.BitXor, "a", "\x7e", api.Missing, "", api.ErrRange},
		{text.BitXor, "", "", api.Missing, "", api.OK},
		{text.BitXor, "", "", 'x', "", api.OK},
	} {
		s, e := c.call(c.a, c.b, c.pad)
		if e != c.problem || s != c.want {
			t.Errorf("%q %q %d: %q, %v; want %q, %v", c.a, c.b, c.pad, s, e, c.want, c.problem)
		}
	}
}

// P2.12 byte by byte, with the pads and with Missing.
func TestBitsByBytes(t *testing.T) {
	r := newSource(212)
	for name, c := range map[string]struct {
		call func(a, b string, pad int) (string, api.Errno)
		bits func(x, y byte) byte
	}{
		"and": {text.BitAnd, func(x, y byte) byte { return x & y }},
		"or":  {text.BitOr, func(x, y byte) byte { return x | y }},
		"xor": {text.BitXor, func(x, y byte) byte { return x ^ y }},
	} {
		for range 3000 {
			a, b := r.text(" !?@A_`a~", 5), r.text(" !?@A_`a~", 5)
			pad := r.missingOr(32, 126)
			var want []byte
			for p := 1; p <= max(len(a), len(b)); p++ {
				switch {
				case pad == api.Missing && p > len(a):
					want = append(want, b[p-1])
				case pad == api.Missing && p > len(b):
					want = append(want, a[p-1])
				default:
					want = append(want, c.bits(at(a, p, byte(pad)), at(b, p, byte(pad))))
				}
			}
			s, e := c.call(a, b, pad)
			call := fmt.Sprintf("%s %q %q %d", name, a, b, pad)
			if !text.Valid(string(want)) {
				wantError(t, call, s, e, api.ErrRange)
			} else {
				wantText(t, call, s, e, string(want))
			}
		}
	}
}

// P2.13, and the examples.
func TestConversions(t *testing.T) {
	for _, c := range []struct {
		name    string
		call    func(string) (string, api.Errno)
		s, want string
	}{
		{"C2X", text.C2X, "ab", "6162"}, {"C2X", text.C2X, "", ""}, {"C2X", text.C2X, " ~/:", "207E2F3A"},
		{"X2C", text.X2C, "6162", "ab"}, {"X2C", text.X2C, "61 62", "ab"}, {"X2C", text.X2C, "61    6263", "abc"},
		{"X2C", text.X2C, "", ""}, {"X2C", text.X2C, "7e", "~"}, {"X2C", text.X2C, "7E", "~"}, {"X2C", text.X2C, "20", " "},
		{"X2C", text.X2C, "4b4B", "KK"}, {"X2B", text.X2B, "f01", "111100000001"}, {"X2B", text.X2B, "f0 1f", "1111000000011111"},
		{"X2B", text.X2B, "1 00", "000100000000"}, {"X2B", text.X2B, "0", "0000"}, {"X2B", text.X2B, "", ""}, {"X2B", text.X2B, "aF", "10101111"},
		{"B2X", text.B2X, "101 1111", "5F"}, {"B2X", text.B2X, "", ""}, {"B2X", text.B2X, "1", "1"}, {"B2X", text.B2X, "0", "0"},
		{"B2X", text.B2X, "10000", "10"}, {"B2X", text.B2X, "11111", "1F"}, {"B2X", text.B2X, "0000 1010  11001011", "0ACB"},
		{"B2X", text.B2X, "1 0000 0000", "100"},
	} {
		s, e := c.call(c.s)
		wantText(t, fmt.Sprintf("%s %q", c.name, c.s), s, e, c.want)
	}
}

// P2.13: strings that are not hexadecimal or binary, and results that are not valid.
func TestConversionErrors(t *testing.T) {
	for _, s := range []string{"f0 1", "61 6", "61 626 63", " 61", "61 ", " ", "6g", "6G", "0x", "6@", "6`", "/1", "1:", "61\t62", "61\x7f", "-1", "f0 1f2"} {
		got, e := text.X2C(s)
		wantError(t, fmt.Sprintf("X2C %q", s), got, e, api.ErrArg)
		got, e = text.X2B(s)
		wantError(t, fmt.Sprintf("X2B %q", s), got, e, api.ErrArg)
	}
	for _, s := range []string{"1 101", "1111 11", "1111 11111 1111", " 1", "1 ", " ", "2", "12", "a", "1111 a111", "1111\t1111", "1/", "-1"} {
		got, e := text.B2X(s)
		wantError(t, fmt.Sprintf("B2X %q", s), got, e, api.ErrArg)
	}
	for _, s := range []string{"4 6162", "4", "1F", "61 7f", "7F", "80", "ff61", "0", "0A"} {
		got, e := text.X2C(s)
		wantError(t, fmt.Sprintf("X2C %q", s), got, e, api.ErrRange)
	}
}

// P2.13: every single byte, and random strings, against the library.
func TestConversionsAgainstLibrary(t *testing.T) {
	r := newSource(213)
	for range 1500 {
		s := r.any(20)
		got, e := text.C2X(s)
		wantText(t, fmt.Sprintf("C2X %q", s), got, e, strings.ToUpper(hex.EncodeToString([]byte(s))))
		x := r.text("0123456789abcdefABCDEF", 20)
		want := ""
		if x != "" {
			n, _ := new(big.Int).SetString(x, 16)
			want = fmt.Sprintf("%0*s", 4*len(x), n.Text(2))
		}
		got, e = text.X2B(x)
		wantText(t, fmt.Sprintf("X2B %q", x), got, e, want)
		b := r.text("01", 30)
		want = ""
		if b != "" {
			n, _ := new(big.Int).SetString(b, 2)
			want = fmt.Sprintf("%0*s", (len(b)+3)/4, strings.ToUpper(n.Text(16)))
		}
		got, e = text.B2X(b)
		wantText(t, fmt.Sprintf("B2X %q", b), got, e, want)
	}
	for x := range 256 {
		for _, form := range []string{"%02x", "%02X"} {
			s, e := text.X2C(fmt.Sprintf(form, x))
			if x < 32 || x > 126 {
				wantError(t, fmt.Sprintf("X2C %02x", x), s, e, api.ErrRange)
			} else {
				wantText(t, fmt.Sprintf("X2C %02x", x), s, e, string([]byte{byte(x)}))
			}
		}
	}
}
