package text_test

import (
	"fmt"
	"strings"
	"testing"

	"qanat/api"
	"qanat/text"
)

// P2.6, with overlapping occurrences, empty parts, and starts at and beyond the ends.
func TestPos(t *testing.T) {
	for _, c := range []struct {
		part, s     string
		start, want int
	}{
		{"day", "Saturday", 1, 6}, {"day", "Saturday", 6, 6}, {"day", "Saturday", 7, 0},
		{"x", "abc", 1, 0}, {"", "abc", 1, 0}, {"", "", 1, 0}, {"a", "", 1, 0},
		{"aa", "aaaa", 1, 1}, {"aa", "aaaa", 2, 2}, {"aa", "aaaa", 3, 3}, {"aa", "aaaa", 4, 0},
		{"abc", "abc", 1, 1}, {"abc", "abc", 2, 0}, {"abcd", "abc", 1, 0}, {"c", "abc", 3, 3},
		{"aab", "aaaab", 1, 3}, {"abc", "ab", 1, 0}, {"a", "abc", huge, 0}, {" ", "a b", 1, 2},
	} {
		n, e := text.Pos(c.part, c.s, c.start)
		wantNumber(t, fmt.Sprintf("Pos %+v", c), n, e, c.want)
	}
}

func TestLastPos(t *testing.T) {
	for _, c := range []struct {
		part, s     string
		start, want int
	}{
		{" ", "abc def ghi", 7, 4}, {" ", "abc def ghi", api.Missing, 8}, {" ", "abc def ghi", 8, 8},
		{"def", "abcdefghi", 5, 0}, {"def", "abcdefghi", 6, 4}, {"def", "abcdefghi", 100, 4},
		{"aa", "aaaa", api.Missing, 3}, {"aa", "aaaa", 3, 2}, {"aa", "aaaa", 2, 1}, {"aa", "aaaa", 1, 0},
		{"", "abc", api.Missing, 0}, {"a", "", api.Missing, 0}, {"", "", 1, 0}, {"abcd", "abc", huge, 0},
		{"a", "abc", 1, 1}, {"abc", "abc", huge, 1},
	} {
		n, e := text.LastPos(c.part, c.s, c.start)
		wantNumber(t, fmt.Sprintf("LastPos %+v", c), n, e, c.want)
	}
}

func TestCountChange(t *testing.T) {
	for _, c := range []struct {
		part, s, with string
		count         int
		changed       string
	}{
		{"aa", "aaaaa", "b", 2, "bba"},
		{"a", "banana", "", 3, "bnn"},
		{"an", "banana", "anan", 2, "banananana"},
		{"ana", "banana", "-", 1, "b-na"},
		{"", "abc", "x", 0, "abc"},
		{"", "", "x", 0, ""},
		{"abc", "abc", "", 1, ""},
		{"abcd", "abc", "x", 0, "abc"},
		{"x", "abc", "y", 0, "abc"},
		{"aab", "aaaab", "b", 1, "aab"},
	} {
		n, e := text.Count(c.part, c.s)
		wantNumber(t, fmt.Sprintf("Count %+v", c), n, e, c.count)
		s, e := text.Change(c.part, c.s, c.with)
		wantText(t, fmt.Sprintf("Change %+v", c), s, e, c.changed)
	}
}

// P2.6 against the library's searches.
func TestSearchesAgainstStrings(t *testing.T) {
	r := newSource(26)
	for range 5000 {
		s, part, with := r.text("ab", 12), r.text("ab", 3), r.any(3)
		start := 1 + r.Intn(14)
		pos, last, all := 0, 0, 0
		if part != "" {
			if start <= len(s) {
				if k := strings.Index(s[start-1:], part); k >= 0 {
					pos = k + start
				}
			}
			last = strings.LastIndex(s[:min(start, len(s))], part) + 1
			all = strings.LastIndex(s, part) + 1
		}
		n, e := text.Pos(part, s, start)
		wantNumber(t, fmt.Sprintf("Pos %q %q %d", part, s, start), n, e, pos)
		n, e = text.LastPos(part, s, start)
		wantNumber(t, fmt.Sprintf("LastPos %q %q %d", part, s, start), n, e, last)
		n, e = text.LastPos(part, s, api.Missing)
		wantNumber(t, fmt.Sprintf("LastPos %q %q", part, s), n, e, all)
		if part != "" {
			n, e = text.Count(part, s)
			wantNumber(t, fmt.Sprintf("Count %q %q", part, s), n, e, strings.Count(s, part))
			got, e := text.Change(part, s, with)
			wantText(t, fmt.Sprintf("Change %q %q %q", part, s, with), got, e, strings.ReplaceAll(s, part, with))
		}
	}
}

// P2.7.
func TestCompare(t *testing.T) {
	for _, c := range []struct {
		a, b string
		pad  byte
		want int
	}{
		{"abc", "abc", ' ', 0}, {"", "", ' ', 0}, {"abc", "ak", ' ', 2}, {"ab ", "ab", ' ', 0},
		{"ab", "ab ", ' ', 0}, {"ab ", "ab", 'x', 3}, {"ab-- ", "ab", '-', 5}, {"ab", "ab-- ", '-', 5},
		{"", "a", ' ', 1}, {"a", "", ' ', 1}, {"", "xx", 'x', 0}, {"x", "", 'x', 0}, {"Abc", "abc", ' ', 1},
	} {
		n, e := text.Compare(c.a, c.b, c.pad)
		wantNumber(t, fmt.Sprintf("Compare %+v", c), n, e, c.want)
	}
}

func TestAbbrev(t *testing.T) {
	for _, c := range []struct {
		s, part string
		length  int
		want    bool
	}{
		{"Print", "Pri", 3, true}, {"Print", "Pri", 4, false}, {"Print", "Pri", 0, true},
		{"PRINT", "Pri", 1, false}, {"PRINT", "PRY", 1, false}, {"PRINT", "", 0, true},
		{"PRINT", "", 1, false}, {"", "", 0, true}, {"", "a", 0, false}, {"PRINT", "PRINT", 5, true},
		{"PRINT", "PRINTS", 1, false}, {"PRINT", "INT", 1, false}, {"PRINT", "PRINT", huge, false},
	} {
		got, e := text.Abbrev(c.s, c.part, c.length)
		if e != api.OK || got != c.want {
			t.Errorf("Abbrev %+v: %v, %v", c, got, e)
		}
	}
}

func TestVerify(t *testing.T) {
	for _, c := range []struct {
		s, set string
		match  bool
		start  int
		want   int
	}{
		{"AB3CD5", "1234567890", true, 4, 6}, {"AB3CD5", "1234567890", false, 3, 4},
		{"AB3CD5", "1234567890", true, 1, 3}, {"AB3CD5", "1234567890", false, 1, 1},
		{"123", "1234567890", false, 1, 0}, {"ABC", "1234567890", true, 1, 0},
		{"123", "", false, 1, 1}, {"123", "", false, 3, 3}, {"123", "", false, 4, 0}, {"123", "", true, 1, 0},
		{"", "abc", false, 1, 0}, {"", "abc", true, 1, 0}, {"", "", false, 1, 0},
		{"abc", "c", true, 3, 3}, {"abc", "c", true, 4, 0}, {"abc", "c", false, huge, 0},
	} {
		n, e := text.Verify(c.s, c.set, c.match, c.start)
		wantNumber(t, fmt.Sprintf("Verify %+v", c), n, e, c.want)
	}
}

// P2.7 byte by byte.
func TestFirstBytes(t *testing.T) {
	r := newSource(27)
	for range 3000 {
		a, b, pad := r.text("ab ", 6), r.text("ab ", 6), "ab "[r.Intn(3)]
		start, match := 1+r.Intn(8), r.Intn(2) == 0
		differ, met := 0, 0
		for p := max(len(a), len(b)); p > 0; p-- {
			if at(a, p, pad) != at(b, p, pad) {
				differ = p
			}
		}
		for p := len(a); p >= start; p-- {
			if strings.IndexByte(b, a[p-1]) >= 0 == match {
				met = p
			}
		}
		n, e := text.Compare(a, b, pad)
		wantNumber(t, fmt.Sprintf("Compare %q %q %q", a, b, pad), n, e, differ)
		n, e = text.Verify(a, b, match, start)
		wantNumber(t, fmt.Sprintf("Verify %q %q %v %d", a, b, match, start), n, e, met)
	}
}
