package cut_test

import (
	"slices"
	"strconv"
	"strings"
	"testing"

	"qanat/api"
	"qanat/cut"
)

// P7.5.
func TestWords(t *testing.T) {
	for _, c := range []struct {
		s     string
		n     int
		words []string
		spans [][2]int
	}{
		{"", 1, []string{""}, [][2]int{{0, 0}}},
		{"", 3, []string{"", "", ""}, [][2]int{{0, 0}, {0, 0}, {0, 0}}},
		{" a  b ", 1, []string{" a  b "}, [][2]int{{0, 6}}},
		{" a  b ", 2, []string{"a", " b "}, [][2]int{{1, 2}, {3, 6}}},
		{" a  b ", 3, []string{"a", "b", ""}, [][2]int{{1, 2}, {4, 5}, {6, 6}}},
		{" a  b ", 4, []string{"a", "b", "", ""}, [][2]int{{1, 2}, {4, 5}, {6, 6}, {6, 6}}},
		{"a b  ", 3, []string{"a", "b", " "}, [][2]int{{0, 1}, {2, 3}, {4, 5}}},
		{"   ", 2, []string{"", ""}, [][2]int{{3, 3}, {3, 3}}},
		{"a", 2, []string{"a", ""}, [][2]int{{0, 1}, {1, 1}}},
		{"a ", 2, []string{"a", ""}, [][2]int{{0, 1}, {2, 2}}},
		{"ab cd", 2, []string{"ab", "cd"}, [][2]int{{0, 2}, {3, 5}}},
		{fox, 3, []string{"the", "quick", " fox"}, [][2]int{{0, 3}, {4, 9}, {10, 14}}},
		{strings.Repeat("~", api.MaxString), 1, []string{strings.Repeat("~", api.MaxString)}, [][2]int{{0, api.MaxString}}},
		{"x", api.MaxParts, append([]string{"x"}, slices.Repeat([]string{""}, api.MaxParts-1)...), append([][2]int{{0, 1}}, slices.Repeat([][2]int{{1, 1}}, api.MaxParts-1)...)},
	} {
		if l, e := cut.Words(c.s, c.n); e != api.OK || !slices.Equal(l, c.words) {
			t.Errorf("Words of %q, %d: %q, %v", c.s, c.n, l, e)
		}
		if l, e := cut.Spans(c.s, c.n); e != api.OK || !slices.Equal(l, c.spans) {
			t.Errorf("Spans of %q, %d: %v, %v", c.s, c.n, l, e)
		}
	}
	for _, c := range []struct {
		s string
		n int
	}{
		{"a", 0}, {"a", -1}, {"a", api.MaxParts + 1}, {"a", 1 << 62}, {"\t", 1}, {"a\x7f", 2}, {"\x80", 2}, {strings.Repeat("a", api.MaxString+1), 1}, {"\n", 0},
	} {
		if l, e := cut.Words(c.s, c.n); e != api.ErrArg || l != nil {
			t.Errorf("Words of %q, %d: %q, %v", c.s, c.n, l, e)
		}
		if l, e := cut.Spans(c.s, c.n); e != api.ErrArg || l != nil {
			t.Errorf("Spans of %q, %d: %v, %v", c.s, c.n, l, e)
		}
	}
}

// P7.6: pieces of the second string, with values that are not its bytes; the pieces of other strings do not count.
func TestLeftAndJoin(t *testing.T) {
	strs := []string{"0123456789", "abcdefgh", ""}
	at := func(from, to int, value string) api.Piece {
		return api.Piece{Part: from, Str: 1, From: from, To: to, Value: value}
	}
	other := []api.Piece{{Str: 0, From: 5, To: 3}, {Str: -1, From: -1, To: 99}, {Str: 2, To: 1}, {Str: 7, From: 1, To: 4, Value: "x"}}
	for _, c := range []struct {
		name string
		l    []api.Piece
		left [][2]int
		join string
	}{
		{"none", nil, [][2]int{{0, 8}}, "abcdefgh"},
		{"all", []api.Piece{at(0, 8, "X")}, nil, "X"},
		{"the first bytes", []api.Piece{at(0, 3, "X")}, [][2]int{{3, 8}}, "Xdefgh"},
		{"the last bytes", []api.Piece{at(5, 8, "X")}, [][2]int{{0, 5}}, "abcdeX"},
		{"two", []api.Piece{at(1, 3, "X"), at(4, 6, "Y")}, [][2]int{{0, 1}, {3, 4}, {6, 8}}, "aXdYgh"},
		{"in another order", []api.Piece{at(4, 6, "Y"), at(1, 3, "X")}, [][2]int{{0, 1}, {3, 4}, {6, 8}}, "aXdYgh"},
		{"next to each other", []api.Piece{at(3, 5, "Y"), at(1, 3, "X")}, [][2]int{{0, 1}, {5, 8}}, "aXYfgh"},
		{"an empty value", []api.Piece{at(2, 4, "")}, [][2]int{{0, 2}, {4, 8}}, "abefgh"},
		{"an empty piece does not divide an interval", []api.Piece{at(3, 3, "")}, [][2]int{{0, 8}}, "abcdefgh"},
		{"but its value has its place there", []api.Piece{at(3, 3, "X")}, [][2]int{{0, 8}}, "abcXdefgh"},
		{"empty pieces at both ends", []api.Piece{at(8, 8, "Y"), at(0, 0, "X")}, [][2]int{{0, 8}}, "XabcdefghY"},
		{"the empty one first", []api.Piece{at(3, 5, "Y"), at(3, 3, "X")}, [][2]int{{0, 3}, {5, 8}}, "abcXYfgh"},
		{"the empty one first, whatever its value is", []api.Piece{at(3, 5, ""), at(3, 3, "X"), at(5, 5, "Z")}, [][2]int{{0, 3}, {5, 8}}, "abcXZfgh"},
		{"empty ones in the order of the list", []api.Piece{at(3, 3, "Y"), at(3, 5, "Z"), at(3, 3, "X"), at(3, 3, "")}, [][2]int{{0, 3}, {5, 8}}, "abcYXZfgh"},
		{"an empty one behind a piece", []api.Piece{at(5, 5, "X"), at(3, 5, "Y")}, [][2]int{{0, 3}, {5, 8}}, "abcYXfgh"},
		{"an empty one inside of a piece", []api.Piece{at(4, 4, "X"), at(3, 6, "Y")}, [][2]int{{0, 3}, {6, 8}}, "abcYXgh"},
		{"empty ones inside of a gap, and at its end", []api.Piece{at(4, 4, "Y"), at(2, 2, "X"), at(6, 6, "Z")}, [][2]int{{0, 8}}, "abXcdYefZgh"},
		{"a value that is no string of the language", []api.Piece{at(0, 1, "\n\xff")}, [][2]int{{1, 8}}, "\n\xffbcdefgh"},
	} {
		for _, l := range [][]api.Piece{c.l, slices.Concat(other, c.l), slices.Concat(c.l, other)} {
			if got, e := cut.Left(strs, l, 1); e != api.OK || !slices.Equal(got, c.left) {
				t.Errorf("%s: Left: %v, %v", c.name, got, e)
			}
			if got, e := cut.Join(strs, l, 1); e != api.OK || got != c.join {
				t.Errorf("%s: Join: %q, %v", c.name, got, e)
			}
		}
	}
	if got, e := cut.Left([]string{""}, []api.Piece{{Value: "X"}}, 0); e != api.OK || len(got) > 0 {
		t.Error(got, e)
	}
	if got, e := cut.Join([]string{""}, []api.Piece{{Value: "X"}, {Value: "Y"}}, 0); e != api.OK || got != "XY" {
		t.Error(got, e)
	}
}

// P7.6: as many pieces as there may be, most of them empty and at the same place.
func TestManyPieces(t *testing.T) {
	var l []api.Piece
	want := "a"
	for k := range api.MaxParts - 1 {
		l = append(l, api.Piece{From: 1, To: 1, Value: strconv.Itoa(k) + " "})
		want += l[k].Value
	}
	l = slices.Insert(l, api.MaxParts/2, api.Piece{From: 1, To: 2, Value: "X"})
	if s, e := cut.Join([]string{"abc"}, l, 0); e != api.OK || s != want+"Xc" {
		t.Errorf("%q, %v; want %q", s, e, want+"Xc")
	}
}

// P7.6: intervals that overlap cover what they cover, but cannot be joined.
func TestOverlap(t *testing.T) {
	strs := []string{"abcdefgh"}
	for _, c := range []struct {
		l    [][2]int
		left [][2]int
		want api.Errno
	}{
		{[][2]int{{1, 3}, {2, 4}}, [][2]int{{0, 1}, {4, 8}}, api.ErrTwice},
		{[][2]int{{2, 4}, {1, 3}}, [][2]int{{0, 1}, {4, 8}}, api.ErrTwice},
		{[][2]int{{1, 6}, {2, 3}}, [][2]int{{0, 1}, {6, 8}}, api.ErrTwice},
		{[][2]int{{1, 6}, {2, 3}, {7, 8}}, [][2]int{{0, 1}, {6, 7}}, api.ErrTwice},
		{[][2]int{{1, 3}, {1, 3}}, [][2]int{{0, 1}, {3, 8}}, api.ErrTwice},
		{[][2]int{{0, 8}, {7, 8}}, nil, api.ErrTwice},
		{[][2]int{{0, 1}, {2, 8}, {7, 7}, {0, 1}}, [][2]int{{1, 2}}, api.ErrTwice},
		{[][2]int{{1, 3}, {2, 2}, {3, 4}}, [][2]int{{0, 1}, {4, 8}}, api.OK},
		{[][2]int{{1, 3}, {1, 1}, {3, 3}}, [][2]int{{0, 1}, {3, 8}}, api.OK},
		{[][2]int{{0, 4}, {4, 8}, {4, 4}, {4, 4}}, nil, api.OK},
	} {
		var l []api.Piece
		for _, x := range c.l {
			l = append(l, api.Piece{From: x[0], To: x[1], Value: strs[0][x[0]:x[1]]})
		}
		if got, e := cut.Left(strs, l, 0); e != api.OK || !slices.Equal(got, c.left) {
			t.Errorf("%v: Left: %v, %v", c.l, got, e)
		}
		if got, e := cut.Join(strs, l, 0); e != c.want || e == api.OK && got != strs[0] || e != api.OK && got != "" {
			t.Errorf("%v: Join: %q, %v", c.l, got, e)
		}
	}
}

// P7.6: the errors.
func TestPieceErrors(t *testing.T) {
	twice := []api.Piece{{Str: 1, To: 1}, {Str: 1, To: 1}}
	most := slices.Repeat([]string{""}, api.MaxStrings+1)
	for _, c := range []struct {
		name string
		strs []string
		l    []api.Piece
		str  int
		want api.Errno
	}{
		{"too many strings", most, twice, 99, api.ErrLimit},
		{"too many strings that are none", slices.Repeat([]string{"\n"}, api.MaxStrings+1), twice, 99, api.ErrLimit},
		{"no string", []string{"a", "\n"}, twice, 0, api.ErrArg},
		{"another string that is too long", []string{"a", strings.Repeat("a", api.MaxString+1)}, nil, 0, api.ErrArg},
		{"no index", []string{"a", "b"}, twice, -1, api.ErrArg},
		{"no index of a string", []string{"a", "b"}, twice, 2, api.ErrArg},
		{"no strings", nil, nil, 0, api.ErrArg},
		{"too many pieces", []string{"a", "b"}, make([]api.Piece, api.MaxParts+1), 1, api.ErrArg},
		{"before the string", []string{"a", "b"}, []api.Piece{{Str: 1, From: -1}}, 1, api.ErrArg},
		{"far before the string", []string{"a", "b"}, []api.Piece{{Str: 1, From: -1 << 63, To: -1 << 63}}, 1, api.ErrArg},
		{"from the end to the begin", []string{"a", "b"}, []api.Piece{{Str: 1, From: 1, To: 0}}, 1, api.ErrArg},
		{"behind the string", []string{"abc", "b"}, []api.Piece{{Str: 1, From: 1, To: 2}}, 1, api.ErrArg},
		{"all of it behind the string", []string{"abc", "b"}, []api.Piece{{Str: 1, From: 2, To: 2}}, 1, api.ErrArg},
		{"far behind the string", []string{"abc", "b"}, []api.Piece{{Str: 1, To: 1<<63 - 1}}, 1, api.ErrArg},
		{"the last piece", []string{"abc", "b"}, append(slices.Clone(twice), api.Piece{Str: 1, From: 2, To: 2}), 1, api.ErrArg},
	} {
		if l, e := cut.Left(c.strs, c.l, c.str); e != c.want || l != nil {
			t.Errorf("%s: Left: %v, %v", c.name, l, e)
		}
		if s, e := cut.Join(c.strs, c.l, c.str); e != c.want || s != "" {
			t.Errorf("%s: Join: %q, %v", c.name, s, e)
		}
	}
	full := slices.Repeat([]api.Piece{{Str: api.MaxStrings - 1}}, api.MaxParts)
	if l, e := cut.Left(most[1:], full, api.MaxStrings-1); e != api.OK || len(l) > 0 {
		t.Error(l, e)
	}
	if s, e := cut.Join(most[1:], full, api.MaxStrings-1); e != api.OK || s != "" {
		t.Error(s, e)
	}
}

// P7.7.
func TestUpper(t *testing.T) {
	for s, want := range map[string]string{
		"": "", "aZ9-": "AZ9-", "abcxyz": "ABCXYZ", "`{@[": "`{@[", "it's": "IT'S", "\xe4a\xff\n\x00z": "\xe4A\xff\n\x00Z", "äß": "äß", "ı": "ı",
	} {
		if got := cut.Upper(s); got != want {
			t.Errorf("%q: %q", s, got)
		}
	}
	long := strings.Repeat("q", 3*api.MaxString)
	if got := cut.Upper(long); got != strings.Repeat("Q", 3*api.MaxString) {
		t.Error("a long text")
	}
	for x := range 256 {
		want := byte(x)
		if strings.IndexByte("abcdefghijklmnopqrstuvwxyz", want) >= 0 {
			want -= 32
		}
		if got := cut.Upper(string([]byte{want, byte(x)})); got != string([]byte{want, want}) {
			t.Errorf("byte %d: %q", x, got)
		}
	}
}

// P7.7.
func TestTargets(t *testing.T) {
	for text, want := range map[string][]string{
		"": nil, ". . 'x'": nil, "A": {"A"}, "A . B.1 'x' A (C) +(D) -(E) =(F) , A. =5": {"A", "B.1", "A", "A."},
	} {
		if l, e := cut.Targets(tmpl(text)); e != api.OK || !slices.Equal(l, want) {
			t.Errorf("%s: %q, %v", text, l, e)
		}
	}
}

// P7.8.
func TestText(t *testing.T) {
	p := func(kind, n int, text string) api.Part { return api.Part{Kind: kind, N: n, Text: text} }
	for _, c := range []struct {
		t    []api.Part
		want string
	}{
		{nil, ""},
		{[]api.Part{p(api.TpVar, 0, "A.B.1")}, "A.B.1"}, {[]api.Part{p(api.TpVar, 0, "A.")}, "A."}, {[]api.Part{p(api.TpDot, 0, "")}, "."}, {[]api.Part{p(api.TpComma, 0, "")}, ","},
		{[]api.Part{p(api.TpLit, 0, "")}, "''"}, {[]api.Part{p(api.TpLit, 0, "a b")}, "'a b'"}, {[]api.Part{p(api.TpLit, 0, "'")}, "''''"}, {[]api.Part{p(api.TpLit, 0, "it''s \"")}, "'it''''s \"'"},
		{[]api.Part{p(api.TpLitVar, 0, "P")}, "(P)"}, {[]api.Part{p(api.TpAbsVar, 0, "P")}, "=(P)"}, {[]api.Part{p(api.TpPlusVar, 0, "P")}, "+(P)"}, {[]api.Part{p(api.TpMinusVar, 0, "P")}, "-(P)"},
		{[]api.Part{p(api.TpAbs, 5, "")}, "=5"}, {[]api.Part{p(api.TpPlus, 0, "")}, "+0"}, {[]api.Part{p(api.TpMinus, api.MaxColumn, "")}, "-999999999"},
		{[]api.Part{p(api.TpVar, 0, "A"), p(api.TpComma, 0, ""), p(api.TpComma, 0, ""), p(api.TpDot, 0, ""), p(api.TpDot, 0, ""), p(api.TpAbs, 10, "")}, "A , , . . =10"},
		{[]api.Part{p(api.TpVar, 0, "A"), p(api.TpDot, 0, ""), p(api.TpLit, 0, "it's"), p(api.TpMinus, 2, ""), p(api.TpPlusVar, 0, "N"), p(api.TpComma, 0, "")}, "A . 'it''s' -2 +(N) ,"},
	} {
		if s, e := cut.Text(c.t); e != api.OK || s != c.want {
			t.Errorf("%v: %q, %v; want %q", c.t, s, e, c.want)
		}
	}
	r := newSource(78)
	for range 3000 {
		template := r.template()
		if s, e := cut.Text(template); e != api.OK || !slices.Equal(tmpl(s), template) || strings.TrimSpace(s) != s {
			t.Fatalf("%v: %q, %v", template, s, e)
		}
	}
}
