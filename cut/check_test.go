package cut_test

import (
	"slices"
	"strings"
	"testing"

	"qanat/api"
	"qanat/cut"
)

// symbol returns a text of n bytes that begins and ends as told.
func symbol(begin, end string, n int) string {
	return begin + strings.Repeat("N", n-len(begin)-len(end)) + end
}

// simple are simple symbols in uppercase, with are variable symbols with a period, and wrong are none of them.
func simple() []string {
	return []string{"A", "Z", "_", "!", "?", "_1", "?9", "A1", "E5", "X_!?", "THEN", symbol("A", "", 40)}
}

func with() []string {
	return []string{"A.", "?.", "_9.", "A.B", "A.1", "A..", "A...", "A..1", "A.1.", "A.1B", "A.1E5", "A._!?", symbol("A", ".", 40), symbol("A.", "", 40), symbol("A.1", ".", 40)}
}

func wrong() []string {
	return []string{"", " ", ".", "..", ".A", "1", "9A", "1.", "0.A", "1E5", "a", "Aa", "a.", "a.B", "A.b", "A B", " A", "A ", "A. ", "A+", "A.+", "A.1E+5", "'A'", "(A)", "A,", "A\n", "A.\n", "\x00", "A.\x00", "A\x80", "Ä", "A.Ä", "@", "A@", "[", "A.[", "`", "A.{", "/", "A:", symbol("A", "", 41), symbol("A", ".", 41), symbol("A.", "", 41)}
}

// P7.1: the kinds and their numbers.
func TestCheckForm(t *testing.T) {
	most := api.MaxColumn
	for _, c := range []struct {
		p    api.Part
		want api.Errno
	}{
		{api.Part{Kind: api.TpDot}, api.OK}, {api.Part{Kind: api.TpDot, Text: "."}, api.ErrForm}, {api.Part{Kind: api.TpDot, N: 1}, api.ErrForm}, {api.Part{Kind: api.TpDot, N: -1}, api.ErrForm},
		{api.Part{Kind: api.TpComma}, api.OK}, {api.Part{Kind: api.TpComma, Text: ","}, api.ErrForm}, {api.Part{Kind: api.TpComma, N: 1}, api.ErrForm},
		{api.Part{}, api.ErrForm}, {api.Part{Kind: -1}, api.ErrForm}, {api.Part{Kind: 12}, api.ErrForm}, {api.Part{Kind: 12, Text: "A"}, api.ErrForm}, {api.Part{Kind: 1 << 40}, api.ErrForm}, {api.Part{Kind: -api.TpDot}, api.ErrForm},
		{api.Part{Kind: api.TpVar, Text: "A", N: 1}, api.ErrForm}, {api.Part{Kind: api.TpVar, Text: "a", N: 1}, api.ErrForm}, {api.Part{Kind: api.TpLit, Text: "a", N: -1}, api.ErrForm}, {api.Part{Kind: api.TpLit, Text: "\x00", N: 1}, api.ErrForm},
	} {
		if e := cut.Check([]api.Part{c.p}); e != c.want {
			t.Errorf("%v: %v", c.p, e)
		}
	}
	for _, kind := range []int{api.TpAbs, api.TpPlus, api.TpMinus} {
		for n, want := range map[int]api.Errno{0: api.OK, 1: api.OK, most: api.OK, -1: api.ErrForm, most + 1: api.ErrForm, 1 << 62: api.ErrForm, -1 << 63: api.ErrForm} {
			if e := cut.Check([]api.Part{{Kind: kind, N: n}}); e != want {
				t.Errorf("kind %d, column %d: %v", kind, n, e)
			}
			if e := cut.Check([]api.Part{{Kind: kind, N: n, Text: "A"}}); e != api.ErrForm {
				t.Errorf("kind %d, column %d, with a text: %v", kind, n, e)
			}
		}
	}
}

// P7.1: the texts.
func TestCheckTexts(t *testing.T) {
	test := func(kind int, want api.Errno, texts ...string) {
		for _, text := range texts {
			if e := cut.Check([]api.Part{{Kind: kind, Text: text}}); e != want {
				t.Errorf("kind %d, text %q: %v", kind, text, e)
			}
		}
	}
	test(api.TpVar, api.OK, slices.Concat(simple(), with())...)
	test(api.TpVar, api.ErrName, wrong()...)
	for _, kind := range []int{api.TpLitVar, api.TpAbsVar, api.TpPlusVar, api.TpMinusVar} {
		test(kind, api.OK, simple()...)
		test(kind, api.ErrName, slices.Concat(with(), wrong())...)
		if e := cut.Check([]api.Part{{Kind: kind, Text: "A", N: 1}}); e != api.ErrForm {
			t.Errorf("kind %d, with a number: %v", kind, e)
		}
	}
	test(api.TpLit, api.OK, "", " ", "a", "A", "'", "\"", "~", "it's", strings.Repeat(" ", api.MaxString))
	test(api.TpLit, api.ErrArg, "\n", "\x00", "\x1f", "\x7f", "a\x80", "\xff", "ä", strings.Repeat("a", api.MaxString+1))
}

// P7.1: the limit, and the first invalid part.
func TestCheckOrder(t *testing.T) {
	dot, form, name, lit := api.Part{Kind: api.TpDot}, api.Part{}, api.Part{Kind: api.TpVar}, api.Part{Kind: api.TpLit, Text: "\n"}
	for _, c := range []struct {
		t    []api.Part
		want api.Errno
	}{
		{nil, api.OK}, {[]api.Part{}, api.OK}, {slices.Repeat([]api.Part{dot}, api.MaxParts), api.OK}, {slices.Repeat([]api.Part{dot}, api.MaxParts+1), api.ErrLimit}, {slices.Repeat([]api.Part{form}, api.MaxParts+1), api.ErrLimit},
		{[]api.Part{dot, form, name, lit}, api.ErrForm}, {[]api.Part{dot, name, form, lit}, api.ErrName}, {[]api.Part{lit, name, form}, api.ErrArg}, {append(slices.Repeat([]api.Part{dot}, api.MaxParts-1), name), api.ErrName},
	} {
		if e := cut.Check(c.t); e != c.want {
			t.Errorf("%v: %v; want %v", c.t, e, c.want)
		}
		testTemplateError(t, c.t, c.want)
	}
}

// testTemplateError tests the functions that have nothing but a template.
func testTemplateError(t *testing.T, template []api.Part, want api.Errno) {
	t.Helper()
	if l, e := cut.Targets(template); e != want || e != api.OK && l != nil {
		t.Errorf("Targets of %v: %q, %v; want %v", template, l, e, want)
	}
	if s, e := cut.Text(template); e != want || e != api.OK && s != "" {
		t.Errorf("Text of %v: %q, %v; want %v", template, s, e, want)
	}
}

// P7.2 to P7.4: the errors, in their order; then all other results are zero.
func TestFirstErrors(t *testing.T) {
	right, template := tmpl("A 'b' =(N) , C (M)"), []api.Part{{Kind: api.TpVar}}
	long, tooLong := strings.Repeat("~", api.MaxString), strings.Repeat("~", api.MaxString+1)
	most, tooMany := slices.Repeat([]string{long}, api.MaxStrings), slices.Repeat([]string{"\n"}, api.MaxStrings+1)
	bad, twice := []string{"a", "b\x7f"}, pairs("N", "1", "M", "\n", "N", "1")
	for _, c := range []struct {
		name string
		t    []api.Part
		strs []string
		vars []api.Pair
		want api.Errno
	}{
		{"all is right", right, []string{"abc", "d"}, pairs("N", "1"), api.OK},
		{"nothing", nil, nil, nil, api.OK},
		{"the most of all", right, most, append(filled(api.MaxVars-1), api.Pair{Name: "N", Value: long}), api.OK},
		{"names that are none", right, most, pairs("", "1", "n", "2", "\n", "3"), api.OK},
		{"the template first", template, tooMany, append(filled(api.MaxVars), twice...), api.ErrName},
		{"then the number of strings", right, tooMany, append(filled(api.MaxVars), twice...), api.ErrLimit},
		{"then the strings", right, bad, append(filled(api.MaxVars), twice...), api.ErrArg},
		{"a string that is too long", right, []string{tooLong}, nil, api.ErrArg},
		{"then the number of variables", right, most, append(filled(api.MaxVars), twice...), api.ErrLimit},
		{"then their names", right, most, twice, api.ErrTwice},
		{"an empty name twice", right, most, pairs("", "1", "", "2"), api.ErrTwice},
		{"then their values", right, most, pairs("N", "1", "M", "\n"), api.ErrArg},
		{"a value that is too long", right, most, pairs("N", tooLong), api.ErrArg},
		{"a string behind the template's sections", right, []string{"", "", "", "\n"}, nil, api.ErrArg},
		{"no template, and a string", nil, []string{"\n"}, nil, api.ErrArg},
		{"no template, and a variable", nil, nil, pairs("N", "\n"), api.ErrArg},
	} {
		l, code, e := cut.Cut(c.t, c.strs, c.vars)
		if e != c.want || e != api.OK && (l != nil || code != 0) {
			t.Errorf("%s: Cut: %v, %d, %v", c.name, l, code, e)
		}
		if e := cut.CheckCut(c.t, c.strs, c.vars, l); e != c.want {
			t.Errorf("%s: CheckCut: %v", c.name, e)
		}
		if l, e := cut.Unset(c.t, c.strs, c.vars); e != c.want || e != api.OK && l != nil {
			t.Errorf("%s: Unset: %v, %v", c.name, l, e)
		}
		if l, e := cut.After(c.t, c.strs, c.vars); e != c.want || e != api.OK && l != nil {
			t.Errorf("%s: After: %v, %v", c.name, l, e)
		}
	}
}
