package text_test

import (
	"fmt"
	"strings"
	"testing"

	"qanat/api"
	"qanat/text"
)

// P2.1: every single byte, and the greatest length.
func TestValid(t *testing.T) {
	for x := range 256 {
		for _, s := range []string{string([]byte{byte(x)}), "ab" + string([]byte{byte(x)}) + "c", "ab" + string([]byte{byte(x)})} {
			if got := text.Valid(s); got != (x >= 32 && x <= 126) {
				t.Errorf("Valid(%q): %v", s, got)
			}
		}
	}
	for s, want := range map[string]bool{"": true, line(999): true, line(1000): true, line(1001): false, "é": false} {
		if got := text.Valid(s); got != want {
			t.Errorf("Valid of %d bytes: %v", len(s), got)
		}
	}
}

// P2.2, and the examples.
func TestLeftRightCenter(t *testing.T) {
	for _, c := range []struct {
		s                   string
		length              int
		left, right, center string
	}{
		{"abc", 5, "abc..", "..abc", ".abc."},
		{"abc", 8, "abc.....", ".....abc", "..abc..."},
		{"abc", 6, "abc...", "...abc", ".abc.."},
		{"abc", 4, "abc.", ".abc", "abc."},
		{"abc", 3, "abc", "abc", "abc"},
		{"abc", 2, "ab", "bc", "ab"},
		{"abc", 1, "a", "c", "b"},
		{"abc", 0, "", "", ""},
		{"The blue sky", 8, "The blue", "blue sky", "e blue s"},
		{"The blue sky", 7, "The blu", "lue sky", "e blue "},
		{"abcdefgh", 1, "a", "h", "d"},
		{"", 3, "...", "...", "..."},
		{"", 0, "", "", ""},
	} {
		call := fmt.Sprintf("%q, %d", c.s, c.length)
		s, e := text.Left(c.s, c.length, '.')
		wantText(t, "Left "+call, s, e, c.left)
		s, e = text.Right(c.s, c.length, '.')
		wantText(t, "Right "+call, s, e, c.right)
		s, e = text.Center(c.s, c.length, '.')
		wantText(t, "Center "+call, s, e, c.center)
	}
	s, e := text.Center("abc", 8, '-')
	wantText(t, "Center", s, e, "--abc---")
}

// P2.3: with pads, without, and beyond the end.
func TestSubstrDelStr(t *testing.T) {
	for _, c := range []struct {
		n, length    int
		sub, without string
	}{
		{1, 2, "ab", "cd"},
		{2, 2, "bc", "ad"},
		{4, 1, "d", "abc"},
		{4, 3, "d--", "abc"},
		{5, 2, "--", "abcd"},
		{9, 2, "--", "abcd"},
		{1, 0, "", "abcd"},
		{3, 0, "", "abcd"},
		{1, 4, "abcd", ""},
		{1, 9, "abcd-----", ""},
		{1, api.Missing, "abcd", ""},
		{3, api.Missing, "cd", "ab"},
		{4, api.Missing, "d", "abc"},
		{5, api.Missing, "", "abcd"},
		{huge, api.Missing, "", "abcd"},
		{huge, 2, "--", "abcd"},
	} {
		call := fmt.Sprintf("%d, %d", c.n, c.length)
		s, e := text.Substr("abcd", c.n, c.length, '-')
		wantText(t, "Substr "+call, s, e, c.sub)
		s, e = text.DelStr("abcd", c.n, c.length)
		wantText(t, "DelStr "+call, s, e, c.without)
	}
	s, e := text.DelStr("abcd", 2, huge)
	wantText(t, "DelStr 2, huge", s, e, "a")
	s, e = text.Substr("", 1, 3, '-')
	wantText(t, "Substr of nothing", s, e, "---")
	s, e = text.DelStr("", 1, api.Missing)
	wantText(t, "DelStr of nothing", s, e, "")
}

// P2.4, and the examples.
func TestInsertOverlay(t *testing.T) {
	for _, c := range []struct {
		part, s   string
		n, length int
		want      string
	}{
		{"123", "abc", 5, 6, "abc++123+++"},
		{"123", "abc", 0, api.Missing, "123abc"},
		{"123", "abc", 1, 2, "a12bc"},
		{"123", "abc", 3, api.Missing, "abc123"},
		{"123", "abc", 4, api.Missing, "abc+123"},
		{"123", "abc", 2, 0, "abc"},
		{"123", "abc", 5, 0, "abc++"},
		{"", "abc", 1, 2, "a++bc"},
		{"", "", 0, api.Missing, ""},
		{"", "abc", 5, api.Missing, "abc++"},
	} {
		s, e := text.Insert(c.part, c.s, c.n, c.length, '+')
		wantText(t, fmt.Sprintf("Insert %+v", c), s, e, c.want)
	}
	for _, c := range []struct {
		part, s   string
		n, length int
		want      string
	}{
		{"123", "abc", 5, 6, "abc+123+++"},
		{"12", "abcdef", 2, api.Missing, "a12def"},
		{"12", "abcdef", 1, 4, "12++ef"},
		{"12", "abcdef", 6, api.Missing, "abcde12"},
		{"12", "abcdef", 7, api.Missing, "abcdef12"},
		{"12", "abcdef", 8, api.Missing, "abcdef+12"},
		{"12", "abcdef", 2, 1, "a1cdef"},
		{"12", "abcdef", 2, 0, "abcdef"},
		{"12", "abcdef", 9, 0, "abcdef++"},
		{"", "abc", 5, api.Missing, "abc+"},
		{"", "", 1, api.Missing, ""},
		{"123", "abc", 1, api.Missing, "123"},
	} {
		s, e := text.Overlay(c.part, c.s, c.n, c.length, '+')
		wantText(t, fmt.Sprintf("Overlay %+v", c), s, e, c.want)
	}
}

// P2.5.
func TestCopiesReverse(t *testing.T) {
	for n, want := range []string{"", "abc", "abcabc", "abcabcabc"} {
		s, e := text.Copies("abc", n)
		wantText(t, fmt.Sprintf("Copies %d", n), s, e, want)
	}
	s, e := text.Copies("", huge)
	wantText(t, "Copies of nothing", s, e, "")
	for s, want := range map[string]string{"": "", "a": "a", "ab": "ba", "abc": "cba", " a": "a "} {
		got, e := text.Reverse(s)
		wantText(t, "Reverse "+s, got, e, want)
	}
}

// P2.5: each side, other bytes inside, and strings of that byte alone.
func TestStrip(t *testing.T) {
	for _, c := range []struct {
		s                 string
		both, lead, trail string
	}{
		{"..a.b...", "a.b", "a.b...", "..a.b"},
		{".", "", "", ""},
		{"...", "", "", ""},
		{"", "", "", ""},
		{"ab", "ab", "ab", "ab"},
		{"a..", "a", "a..", "a"},
		{" .a", " .a", " .a", " .a"},
	} {
		s, e := text.Strip(c.s, api.SideBoth, '.')
		wantText(t, "Strip both "+c.s, s, e, c.both)
		s, e = text.Strip(c.s, api.SideLead, '.')
		wantText(t, "Strip leading "+c.s, s, e, c.lead)
		s, e = text.Strip(c.s, api.SideTrail, '.')
		wantText(t, "Strip trailing "+c.s, s, e, c.trail)
	}
}

// at returns the byte of s at a position, or pad beyond its end.
func at(s string, position int, pad byte) byte {
	if position <= len(s) {
		return s[position-1]
	}
	return pad
}

// P2.2 to P2.4, byte by byte: each result is held against the positions that the chapter tells.
func TestPositions(t *testing.T) {
	r := newSource(21)
	for range 3000 {
		s, part, pad := r.any(12), r.any(6), r.pad()
		n, length := 1+r.Intn(15), r.missingOr(0, 15)
		taken := length
		if length == api.Missing {
			taken = max(len(s)-n+1, 0)
		}
		var sub, rest, over []byte
		for k := range taken {
			sub = append(sub, at(s, n+k, pad))
		}
		for k := range len(s) {
			if k+1 < n || k+1 >= n+taken {
				rest = append(rest, s[k])
			}
		}
		got, e := text.Substr(s, n, length, pad)
		wantText(t, fmt.Sprintf("Substr %q %d %d", s, n, length), got, e, string(sub))
		got, e = text.DelStr(s, n, length)
		wantText(t, fmt.Sprintf("DelStr %q %d %d", s, n, length), got, e, string(rest))
		laid := length
		if length == api.Missing {
			laid = len(part)
		}
		for p := 1; p <= max(len(s), n-1+laid); p++ {
			if p >= n && p < n+laid {
				over = append(over, at(part, p-n+1, pad))
			} else {
				over = append(over, at(s, p, pad))
			}
		}
		got, e = text.Overlay(part, s, n, length, pad)
		wantText(t, fmt.Sprintf("Overlay %q %q %d %d", part, s, n, length), got, e, string(over))
		var in []byte
		for p := 1; p < max(n, len(s)+1); p++ {
			in = append(in, at(s, p, pad))
		}
		var fit []byte
		for p := 1; p <= laid; p++ {
			fit = append(fit, at(part, p, pad))
		}
		want := string(in[:n-1]) + string(fit) + string(in[n-1:])
		got, e = text.Insert(part, s, n-1, length, pad)
		wantText(t, fmt.Sprintf("Insert %q %q %d %d", part, s, n-1, length), got, e, want)
	}
}

// P2.2: Left, Right and Center by what is added or removed at each end.
func TestEnds(t *testing.T) {
	r := newSource(22)
	for range 2000 {
		s, length := r.any(12), r.Intn(20)
		d := length - len(s)
		for name, c := range map[string]struct {
			call func(string, int, byte) (string, api.Errno)
			head int
		}{"Left": {text.Left, 0}, "Right": {text.Right, max(d, -d)}, "Center": {text.Center, max(d, -d) / 2}} {
			want := ""
			if d >= 0 {
				want = strings.Repeat("#", c.head) + s + strings.Repeat("#", d-c.head)
			} else {
				want = s[c.head : len(s)-(-d-c.head)]
			}
			got, e := c.call(s, length, '#')
			wantText(t, fmt.Sprintf("%s %q %d", name, s, length), got, e, want)
		}
	}
}
