package cut_test

import (
	"slices"
	"strings"
	"testing"

	"qanat/api"
	"qanat/cut"
)

const fox = "the quick  fox"

// The examples of the chapter.
func TestExamples(t *testing.T) {
	for text, want := range map[string][]string{
		"A B":              {"the", "quick  fox"},
		"A B C":            {"the", "quick", " fox"},
		"A . B D":          {"the", "quick", "fox", ""},
		"A 'quick' B":      {"the ", "  fox"},
		"A =5 B":           {"the ", "quick  fox"},
		"=5 A +5 B =1 C":   {"quick", "  fox", fox},
		"'quick' A +5 B":   {"quick", "  fox"},
		"A (P) B":          {"the ", "uick  fox"},
		"A 'zz' B":         {fox, ""},
		"":                 nil,
		"A":                {fox},
		"(P)":              nil,
		"A 'quick' B C +5": {"the ", "quick", ""},
	} {
		if got := values(cutUp(t, tmpl(text), []string{fox}, pairs("P", "q"))); !slices.Equal(got, want) {
			t.Errorf("%s: %q; want %q", text, got, want)
		}
	}
	if got := values(cutUp(t, tmpl("A , B"), []string{"x y", "z"}, nil)); !slices.Equal(got, []string{"x y", "z"}) {
		t.Errorf("%q", got)
	}
}

// offsets tests the offsets of the pieces of a string: a list of pairs.
func offsets(t *testing.T, text, s string, want ...[2]int) {
	t.Helper()
	var got [][2]int
	for _, p := range cutUp(t, tmpl(text), []string{s}, pairs("E", "", "I", "3", "Z", "0", "L", "cd")) {
		if p.Value != s[p.From:p.To] || p.Str != 0 {
			t.Errorf("%s of %q: %v", text, s, p)
		}
		got = append(got, [2]int{p.From, p.To})
	}
	if !slices.Equal(got, want) {
		t.Errorf("%s of %q: %v; want %v", text, s, got, want)
	}
}

// P7.2: literals.
func TestLiterals(t *testing.T) {
	offsets(t, "A 'cd' B", "abcdef", [2]int{0, 2}, [2]int{4, 6})
	offsets(t, "A 'cd' B 'cd' C", "abcdcdef", [2]int{0, 2}, [2]int{4, 4}, [2]int{6, 8})
	offsets(t, "A 'aa' B 'aa' C", "aaa", [2]int{0, 0}, [2]int{2, 3}, [2]int{3, 3})
	offsets(t, "A (L) B", "abcdef", [2]int{0, 2}, [2]int{4, 6})
	offsets(t, "A 'abcdef' B", "abcdef", [2]int{0, 0}, [2]int{6, 6})
	offsets(t, "A 'f' B", "abcdef", [2]int{0, 5}, [2]int{6, 6})
	offsets(t, "'f' A 'a' B", "abcdef", [2]int{6, 6}, [2]int{6, 6})
	offsets(t, "'c' A 'b' B", "abcdef", [2]int{3, 6}, [2]int{6, 6})
	offsets(t, "A 'CD' B", "abcdef", [2]int{0, 6}, [2]int{6, 6})
	offsets(t, "A 'abcdefg' B", "abcdef", [2]int{0, 6}, [2]int{6, 6})
	offsets(t, "A '' B 'c' C", "abcdef", [2]int{0, 6}, [2]int{6, 6}, [2]int{6, 6})
	offsets(t, "A (E) B", "abcdef", [2]int{0, 6}, [2]int{6, 6})
	offsets(t, "A '' B", "", [2]int{0, 0}, [2]int{0, 0})
	offsets(t, "A 'a' B", "", [2]int{0, 0}, [2]int{0, 0})
	offsets(t, "A 'a'", "bab", [2]int{0, 1})
	offsets(t, "'a' 'b' A", "babab", [2]int{3, 5})
	offsets(t, "A '''' B", "it's", [2]int{0, 2}, [2]int{3, 4})
	offsets(t, "A '  ' B", "a b  c", [2]int{0, 3}, [2]int{5, 6})
}

// P7.2: columns.
func TestColumns(t *testing.T) {
	offsets(t, "A =3 B", "abcdef", [2]int{0, 2}, [2]int{2, 6})
	offsets(t, "A =1 B", "abcdef", [2]int{0, 6}, [2]int{0, 6})
	offsets(t, "A =0 B", "abcdef", [2]int{0, 6}, [2]int{0, 6})
	offsets(t, "A =6 B", "abcdef", [2]int{0, 5}, [2]int{5, 6})
	offsets(t, "A =7 B", "abcdef", [2]int{0, 6}, [2]int{6, 6})
	offsets(t, "A =8 B", "abcdef", [2]int{0, 6}, [2]int{6, 6})
	offsets(t, "A =999999999 B", "abcdef", [2]int{0, 6}, [2]int{6, 6})
	offsets(t, "=3 A =3 B", "abcdef", [2]int{2, 6}, [2]int{2, 6})
	offsets(t, "=4 A =2 B", "abcdef", [2]int{3, 6}, [2]int{1, 6})
	offsets(t, "=4 A =5 B", "abcdef", [2]int{3, 4}, [2]int{4, 6})
	offsets(t, "A +2 B +3 C", "abcdef", [2]int{0, 2}, [2]int{2, 5}, [2]int{5, 6})
	offsets(t, "A +0 B", "abcdef", [2]int{0, 6}, [2]int{0, 6})
	offsets(t, "A -0 B", "abcdef", [2]int{0, 6}, [2]int{0, 6})
	offsets(t, "A +6 B", "abcdef", [2]int{0, 6}, [2]int{6, 6})
	offsets(t, "A +999999999 B -2 C", "abcdef", [2]int{0, 6}, [2]int{6, 6}, [2]int{4, 6})
	offsets(t, "=5 A -2 B", "abcdef", [2]int{4, 6}, [2]int{2, 6})
	offsets(t, "=5 A -999999999 B", "abcdef", [2]int{4, 6}, [2]int{0, 6})
	offsets(t, "=3 A -1 B +2 C", "abcdef", [2]int{2, 6}, [2]int{1, 3}, [2]int{3, 6})
	offsets(t, "=0 A +1 B", "abcdef", [2]int{0, 1}, [2]int{1, 6})
	offsets(t, "A =(I) B +(I) C -(Z) D", "abcdef", [2]int{0, 2}, [2]int{2, 5}, [2]int{5, 6}, [2]int{5, 6})
	offsets(t, "A +(Z) B -(I) C", "abcdef", [2]int{0, 6}, [2]int{0, 6}, [2]int{0, 6})
	offsets(t, "A =1 B =9 C -1 D", "", [2]int{0, 0}, [2]int{0, 0}, [2]int{0, 0}, [2]int{0, 0})
}

// P7.2: relative columns count from the last match, and a literal before one of them begins the next piece.
func TestAnchors(t *testing.T) {
	offsets(t, "A 'cd' B +3 C", "abcdef", [2]int{0, 2}, [2]int{2, 5}, [2]int{5, 6})
	offsets(t, "A 'cd' B -1 C", "abcdef", [2]int{0, 2}, [2]int{2, 6}, [2]int{1, 6})
	offsets(t, "A 'cd' B +0 C", "abcdef", [2]int{0, 2}, [2]int{2, 6}, [2]int{2, 6})
	offsets(t, "A 'cd' B +(I) C", "abcdef", [2]int{0, 2}, [2]int{2, 5}, [2]int{5, 6})
	offsets(t, "A 'cd' B -(I) C", "abcdef", [2]int{0, 2}, [2]int{2, 6}, [2]int{0, 6})
	offsets(t, "A (L) B +3 C", "abcdef", [2]int{0, 2}, [2]int{2, 5}, [2]int{5, 6})
	offsets(t, "'cd' +3 C", "abcdef", [2]int{5, 6})
	offsets(t, "'cd' A . B +4", "abcd f ", [2]int{2, 4}, [2]int{5, 6}, [2]int{6, 6})
	offsets(t, "'cd' A 'e' B +1 C", "abcdef", [2]int{4, 4}, [2]int{4, 5}, [2]int{5, 6})
	offsets(t, "'b' A 'b' B +1 C", "abcdbf", [2]int{2, 4}, [2]int{4, 5}, [2]int{5, 6})
	offsets(t, "'cd' A =6 B +1", "abcdefg", [2]int{4, 5}, [2]int{5, 6})
	offsets(t, "'cd' A =(I) B +1", "abcdefg", [2]int{4, 7}, [2]int{2, 3})
	offsets(t, "'cd' A", "abcdef", [2]int{4, 6})
	offsets(t, "'zz' A +3 B -2 C", "abcdef", [2]int{6, 6}, [2]int{6, 6}, [2]int{4, 6})
	offsets(t, "'' A -2 B", "abcdef", [2]int{6, 6}, [2]int{4, 6})
	// the column of another section is not the next pattern of this one
	p := cutUp(t, tmpl("'cd' A , B +1 C"), []string{"abcdef", "xyz"}, nil)
	if !slices.Equal(values(p), []string{"ef", "x", "yz"}) {
		t.Error(p)
	}
}

// P7.2, P7.5: words of a piece.
func TestWordsOfPieces(t *testing.T) {
	offsets(t, "A B 'x' C D", " a  b x c d ", [2]int{1, 2}, [2]int{3, 6}, [2]int{8, 9}, [2]int{10, 12})
	offsets(t, "A . =4 . B", "a b c d", [2]int{0, 1}, [2]int{2, 3}, [2]int{4, 5}, [2]int{6, 7})
	offsets(t, "A B C 'x' D", " a x", [2]int{1, 2}, [2]int{3, 3}, [2]int{3, 3}, [2]int{4, 4})
	offsets(t, "A B 'x'", "  x", [2]int{2, 2}, [2]int{2, 2})
	offsets(t, "'x' A B", "x", [2]int{1, 1}, [2]int{1, 1})
	offsets(t, ".", " a ", [2]int{0, 3})
	// the first word of a piece begins at the piece, not before it
	offsets(t, "=3 A B", "abcd ef", [2]int{2, 4}, [2]int{5, 7})
	offsets(t, "=3 A B =2 C D", "a bc de", [2]int{2, 4}, [2]int{5, 7}, [2]int{2, 4}, [2]int{5, 7})
}

// P7.2: Part and Str; sections without a string; strings without a section.
func TestSections(t *testing.T) {
	for _, c := range []struct {
		text string
		strs []string
		want []api.Piece
	}{
		{"A 'b' . , =2 B C , D", []string{"abc", "x y"}, []api.Piece{{Part: 0, Str: 0, To: 1, Value: "a"}, {Part: 2, Str: 0, From: 2, To: 3, Value: "c"}, {Part: 5, Str: 1, From: 2, To: 3, Value: "y"}, {Part: 6, Str: 1, From: 3, To: 3}, {Part: 8, Str: -1}}},
		{", , A", []string{"a", "b", "c", "d"}, []api.Piece{{Part: 2, Str: 2, To: 1, Value: "c"}}},
		{"A , B", []string{"a"}, []api.Piece{{To: 1, Value: "a"}, {Part: 2, Str: -1}}},
		{"A ,", []string{"a", "b"}, []api.Piece{{To: 1, Value: "a"}}},
		{"A B 'x' C +3 D", nil, []api.Piece{{Str: -1}, {Part: 1, Str: -1}, {Part: 3, Str: -1}, {Part: 5, Str: -1}}},
		{"A", []string{""}, []api.Piece{{}}},
		{"A -1 B , C -1 D", []string{"xy", "abc"}, []api.Piece{{To: 2, Value: "xy"}, {Part: 2, To: 2, Value: "xy"}, {Part: 4, Str: 1, To: 3, Value: "abc"}, {Part: 6, Str: 1, To: 3, Value: "abc"}}},
		{"'y' A , -1 B", []string{"xyz", "abc"}, []api.Piece{{Part: 1, From: 2, To: 3, Value: "z"}, {Part: 4, Str: 1, To: 3, Value: "abc"}}},
		{", 'a' ,", []string{"a"}, nil},
	} {
		if l := cutUp(t, tmpl(c.text), c.strs, nil); !slices.Equal(l, c.want) {
			t.Errorf("%s of %q: %v; want %v", c.text, c.strs, l, c.want)
		}
	}
	commas := slices.Repeat(tmpl(","), api.MaxParts-1)
	if l := cutUp(t, append(commas, tmpl("A")...), slices.Repeat([]string{"x"}, api.MaxStrings), nil); !slices.Equal(l, []api.Piece{{Part: api.MaxParts - 1, Str: -1}}) {
		t.Error(l)
	}
}

// P7.2, P7.4: the values of variable patterns, code 26, the names without a value, and the variables after the template.
func TestVariables(t *testing.T) {
	given := pairs("N", "2", "Y", "y", "L", "b", "E", "", "B", "0")
	for _, c := range []struct {
		text, s string
		values  []string
		code    int
		unset   []string
		after   []api.Pair
	}{
		{"A =(N) C", "abcd", []string{"a", "bcd"}, 0, nil, pairs("N", "2", "Y", "y", "L", "b", "E", "", "B", "0", "A", "a", "C", "bcd")},
		{"N 'b' B =(N) A", "3bcd", []string{"3", "cd", "cd"}, 0, nil, pairs("N", "3", "Y", "y", "L", "b", "E", "", "B", "cd", "A", "cd")},
		{"N =(N) A", "3bcd", []string{"3", "bcd"}, 0, nil, pairs("N", "3", "Y", "y", "L", "b", "E", "", "B", "0", "A", "bcd")},
		{"L +1 A (L) B", "xyzx!", []string{"x", "yz", "!"}, 0, nil, pairs("N", "2", "Y", "y", "L", "x", "E", "", "B", "!", "A", "yz")},
		{"L +1 L +1 A (L) B", "xyzx!", []string{"x", "y", "zx!", ""}, 0, nil, pairs("N", "2", "Y", "y", "L", "y", "E", "", "B", "", "A", "zx!")},
		{"L M +2 A (L) B", "x yzx!", []string{"x", "", "yz", "!"}, 0, nil, pairs("N", "2", "Y", "y", "L", "x", "E", "", "B", "!", "M", "", "A", "yz")},
		{"N. +1 N.1 +1 A =(N) C", "3456", []string{"3", "4", "56", "456"}, 0, nil, pairs("N", "2", "Y", "y", "L", "b", "E", "", "B", "0", "N.", "3", "N.1", "4", "A", "56", "C", "456")},
		{"A =(Y) C", "abcd", nil, 26, nil, given},
		{"A =(U) C", "abcd", nil, 26, []string{"U"}, given},
		{"A +(E) C", "abcd", nil, 26, nil, given},
		{"A (E) C -(Q) D", "abcd", []string{"abcd"}, 26, []string{"Q"}, append(slices.Clone(given), pairs("A", "abcd")...)},
		{"A =2 B +(U) C =(V) D", "abcd", []string{"a"}, 26, []string{"U"}, append(slices.Clone(given), pairs("A", "a")...)},
		{"A , C =(U) D , . (V)", "abcd", []string{"abcd"}, 26, []string{"U"}, append(slices.Clone(given), pairs("A", "abcd")...)},
		{"A (U) B (U) U =3 U (U) C", "aUbUc", []string{"a", "b", "c", "bU", ""}, 0, []string{"U", "U"}, pairs("N", "2", "Y", "y", "L", "b", "E", "", "B", "b", "A", "a", "U", "bU", "C", "")},
		{"A =2 A 'd' A", "abcde", []string{"a", "bc", "e"}, 0, nil, append(slices.Clone(given), pairs("A", "e")...)},
		{". 'b' . (L)", "abab", []string{"a", "a"}, 0, nil, given},
		{"(U) (L) (U) A , (V) U , (U) (V) V , (V)", "b", []string{"", "", ""}, 0, []string{"U", "U", "V", "V"}, append(slices.Clone(given), pairs("A", "", "U", "", "V", "")...)},
	} {
		l, code, e := cut.Cut(tmpl(c.text), []string{c.s}, given)
		if e != api.OK || code != c.code || !slices.Equal(values(l), c.values) {
			t.Errorf("%s: %q, %d, %v", c.text, values(l), code, e)
		}
		if l, e := cut.Unset(tmpl(c.text), []string{c.s}, given); e != api.OK || !slices.Equal(l, c.unset) {
			t.Errorf("%s: Unset: %q, %v", c.text, l, e)
		}
		if l, e := cut.After(tmpl(c.text), []string{c.s}, given); e != api.OK || !slices.Equal(l, c.after) {
			t.Errorf("%s: After: %q, %v", c.text, l, e)
		}
	}
}

// P7.2: the values of columns.
func TestColumnValues(t *testing.T) {
	for value, want := range map[string]string{
		"0": "abcdef", "1": "abcdef", "3": "cdef", "03": "cdef", "000000003": "cdef", "7": "", "999999999": "", "000000000": "abcdef",
		"": "26", " ": "26", "3 ": "26", " 3": "26", "+3": "26", "-3": "26", "3.": "26", "3.0": "26", "3E0": "26", "x": "26", "0000000003": "26", "1000000000": "26", "1/": "26", "1:": "26", "99999999999999999999": "26",
	} {
		l, code, e := cut.Cut(tmpl("=(N) A"), []string{"abcdef"}, pairs("N", value))
		if e != api.OK || want == "26" && (code != 26 || len(l) > 0) || want != "26" && (code != 0 || !slices.Equal(values(l), []string{want})) {
			t.Errorf("%q: %v, %d, %v", value, l, code, e)
		}
	}
}

// P7.3: named pieces that are not those of Cut; with code 26, the pieces before it are right.
func TestCheckCut(t *testing.T) {
	strs := []string{fox, "z"}
	right := cutUp(t, tmpl("A =5 B C , D , E"), strs, nil)
	if e := cut.CheckCut(tmpl("A =5 B C , D , E"), strs, nil, right); e != api.OK {
		t.Error(e)
	}
	for k := range right {
		for _, change := range []func(p *api.Piece){
			func(p *api.Piece) { p.Part++ }, func(p *api.Piece) { p.Str-- }, func(p *api.Piece) { p.From-- }, func(p *api.Piece) { p.To++ }, func(p *api.Piece) { p.Value += " " }, func(p *api.Piece) { p.Value = strings.ToUpper(p.Value) + "." }, func(p *api.Piece) { *p = api.Piece{Part: -1} },
		} {
			other := slices.Clone(right)
			change(&other[k])
			if e := cut.CheckCut(tmpl("A =5 B C , D , E"), strs, nil, other); e != api.ErrProof {
				t.Errorf("%v: %v", other, e)
			}
		}
	}
	for _, other := range [][]api.Piece{nil, right[1:], right[:4], append(slices.Clone(right), right[4]), {right[1], right[0], right[2], right[3], right[4]}, slices.Repeat(right, 30)} {
		if e := cut.CheckCut(tmpl("A =5 B C , D , E"), strs, nil, other); e != api.ErrProof {
			t.Errorf("%v: %v", other, e)
		}
	}
	ends := tmpl("A =2 B +(Q) C")
	first := []api.Piece{{To: 1, Value: "t"}}
	if e := cut.CheckCut(ends, strs, nil, first); e != api.OK {
		t.Error(e)
	}
	for _, other := range [][]api.Piece{nil, append(first, api.Piece{Part: 2, From: 1, To: 14, Value: fox[1:]})} {
		if e := cut.CheckCut(ends, strs, nil, other); e != api.ErrProof {
			t.Errorf("%v: %v", other, e)
		}
	}
	if e := cut.CheckCut(nil, nil, nil, []api.Piece{}); e != api.OK {
		t.Error(e)
	}
}

// P7.4: with all variables that there may be.
func TestMostVariables(t *testing.T) {
	given := filled(api.MaxVars)
	l, e := cut.After(tmpl("N499 A N0"), []string{"x y z"}, given)
	want := append(slices.Clone(given), api.Pair{Name: "A", Value: "y"})
	want[499].Value, want[0].Value = "x", "z"
	if e != api.OK || !slices.Equal(l, want) {
		t.Error(l, e)
	}
}
