package scan_test

import (
	"math"
	"slices"
	"strings"
	"testing"

	"qanat/api"
	"qanat/scan"
)

var tooLong = strings.Repeat("a", api.MaxSource+1)

// P3.9: lines of named sources.
func TestLines(t *testing.T) {
	for src, want := range map[string][]string{
		"": nil, "\n": {""}, "\n\n": {"", ""}, "a": {"a"}, "a\n": {"a"}, "a\n\n": {"a", ""}, "ab\n\nc\n": {"ab", "", "c"}, "\na": {"", "a"}, " a \r\n'b": {" a \r", "'b"}, "a,\n/*\n#": {"a,", "/*", "#"},
		strings.Repeat("\n", api.MaxSource): make([]string, api.MaxSource), tooLong[1:]: {tooLong[1:]},
	} {
		if lines, e := scan.Lines(src); !slices.Equal(lines, want) || e != api.OK {
			t.Errorf("Lines of %.60q: %d, error %v; want %d", src, len(lines), e, len(want))
		}
	}
	if lines, e := scan.Lines(tooLong); len(lines) > 0 || e != api.ErrLimit {
		t.Errorf("Lines of a source that is too long: %d, error %v", len(lines), e)
	}
}

// P3.9: Place of each offset.
func TestPlace(t *testing.T) {
	for _, src := range []string{"", "\n", "ab", "ab\nc", "ab\n", "\n\n\nx\n\nyz", "a\x80\n#", tooLong[1:]} {
		line, column := 1, 1
		for at := range len(src) + 1 {
			if l, c, e := scan.Place(src, at); l != line || c != column || e != api.OK {
				t.Fatalf("Place of %.60q at %d: line %d, column %d, error %v; want %d, %d", src, at, l, c, e, line, column)
			}
			column++
			if at < len(src) && src[at] == '\n' {
				line, column = line+1, 1
			}
		}
		for _, at := range []int{-1, len(src) + 1, math.MinInt, math.MaxInt} {
			if l, c, e := scan.Place(src, at); l != 0 || c != 0 || e != api.ErrArg {
				t.Errorf("Place of %.60q at %d: line %d, column %d, error %v", src, at, l, c, e)
			}
		}
	}
	for _, at := range []int{-1, 0, len(tooLong), len(tooLong) + 1} {
		if l, c, e := scan.Place(tooLong, at); l != 0 || c != 0 || e != api.ErrLimit {
			t.Errorf("Place of a source that is too long at %d: line %d, column %d, error %v", at, l, c, e)
		}
	}
}

// P3.9: the lines of tokens are those of Place.
func TestPlacesOfTokens(t *testing.T) {
	r := newSource(309)
	for range 5000 {
		src := r.sound(14)
		lines, _ := scan.Lines(src)
		for _, x := range must(t, src) {
			line, column, e := scan.Place(src, x.At)
			if line != x.Line || e != api.OK {
				t.Fatalf("Place of the token at %d of %q: line %d, error %v; want %d", x.At, src, line, e, x.Line)
			}
			if x.Kind != api.TkEnd && !strings.HasPrefix(lines[line-1][column-1:], src[x.At:x.To]) {
				t.Fatalf("the token at %d of %q is not at column %d of line %d", x.At, src, column, line)
			}
		}
	}
}

// P3.10.
func TestEdit(t *testing.T) {
	full := tooLong[1:]
	for _, c := range []struct {
		src      string
		from, to int
		with     string
		want     string
		e        api.Errno
	}{
		{"abcd", 1, 3, "x", "axd", api.OK}, {"abcd", 0, 4, "", "", api.OK}, {"abcd", 0, 0, "x", "xabcd", api.OK}, {"abcd", 4, 4, "xy", "abcdxy", api.OK}, {"abcd", 2, 2, "", "abcd", api.OK}, {"", 0, 0, "", "", api.OK}, {"", 0, 0, "a\x80\n", "a\x80\n", api.OK}, {"a\nb", 1, 2, ";", "a;b", api.OK}, {"abcd", 3, 4, "'", "abc'", api.OK},
		{"abcd", 3, 1, "x", "", api.ErrArg}, {"abcd", -1, 1, "x", "", api.ErrArg}, {"abcd", 0, 5, "x", "", api.ErrArg}, {"abcd", 5, 5, "x", "", api.ErrArg}, {"abcd", -2, -1, "x", "", api.ErrArg}, {"abcd", math.MinInt, math.MaxInt, "x", "", api.ErrArg}, {"abcd", math.MaxInt, math.MaxInt, "x", "", api.ErrArg}, {"abcd", 0, math.MinInt, "x", "", api.ErrArg}, {"", 0, 1, "", "", api.ErrArg},
		{full, 0, 1, "b", "b" + full[1:], api.OK}, {full[1:], 0, 0, "b", "b" + full[1:], api.OK}, {full, 0, len(full), full, full, api.OK},
		{full, 0, 0, "b", "", api.ErrLimit}, {full, 0, 1, "bb", "", api.ErrLimit}, {"", 0, 0, tooLong, "", api.ErrLimit}, {"ab", 0, 2, tooLong, "", api.ErrLimit},
		{full, 1, 0, "b", "", api.ErrArg}, {"", 0, 1, tooLong, "", api.ErrArg}, {tooLong, 0, 1, "", "", api.ErrLimit}, {tooLong, 1, 0, "", "", api.ErrLimit}, {tooLong, -1, 0, "", "", api.ErrLimit},
	} {
		if text, e := scan.Edit(c.src, c.from, c.to, c.with); text != c.want || e != c.e {
			t.Errorf("Edit of %.60q from %d to %d with %.60q: %.60q, error %v; want %.60q, %v", c.src, c.from, c.to, c.with, text, e, c.want, c.e)
		}
	}
}
