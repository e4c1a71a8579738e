package cut_test

import (
	"math/rand"
	"regexp"
	"slices"
	"strconv"
	"strings"
	"testing"

	"qanat/api"
	"qanat/cut"
)

// aPart is a part of a template as Text writes it: a literal, a pattern in parentheses, a column, or a word.
var aPart = regexp.MustCompile(`'((?:[^']|'')*)'|([=+-]?)\(([^ ]*)\)|([=+-])([0-9]+)|[^ ]+`)

// tmpl returns the template that is written as Text writes it.
func tmpl(text string) []api.Part {
	numbers := map[string]int{"=": api.TpAbs, "+": api.TpPlus, "-": api.TpMinus}
	variables := map[string]int{"": api.TpLitVar, "=": api.TpAbsVar, "+": api.TpPlusVar, "-": api.TpMinusVar}
	var t []api.Part
	for _, x := range aPart.FindAllStringSubmatch(text, -1) {
		switch n, err := strconv.Atoi(x[5]); {
		case x[0] == ".":
			t = append(t, api.Part{Kind: api.TpDot})
		case x[0] == ",":
			t = append(t, api.Part{Kind: api.TpComma})
		case x[0][0] == '\'':
			t = append(t, api.Part{Kind: api.TpLit, Text: strings.ReplaceAll(x[1], "''", "'")})
		case x[3] != "":
			t = append(t, api.Part{Kind: variables[x[2]], Text: x[3]})
		case err == nil:
			t = append(t, api.Part{Kind: numbers[x[4]], N: n})
		default:
			t = append(t, api.Part{Kind: api.TpVar, Text: x[0]})
		}
	}
	return t
}

// cutUp returns the pieces of a template whose code is 0.
func cutUp(t *testing.T, template []api.Part, strs []string, vars []api.Pair) []api.Piece {
	t.Helper()
	l, code, e := cut.Cut(template, strs, vars)
	if e != api.OK || code != 0 {
		t.Fatalf("Cut of %v, %q: code %d, error %v", template, strs, code, e)
	}
	return l
}

// values returns the values of pieces.
func values(l []api.Piece) []string {
	var list []string
	for _, p := range l {
		list = append(list, p.Value)
	}
	return list
}

// pairs returns names with their values.
func pairs(l ...string) []api.Pair {
	var list []api.Pair
	for k := 0; k < len(l); k += 2 {
		list = append(list, api.Pair{Name: l[k], Value: l[k+1]})
	}
	return list
}

// filled returns n pairs.
func filled(n int) []api.Pair {
	var list []api.Pair
	for k := range n {
		list = append(list, api.Pair{Name: "N" + strconv.Itoa(k), Value: strconv.Itoa(k)})
	}
	return list
}

// isTarget reports whether a part is a target.
func isTarget(p api.Part) bool { return p.Kind == api.TpVar || p.Kind == api.TpDot }

// isColumn reports whether a part is a column.
func isColumn(p api.Part) bool {
	return slices.Contains([]int{api.TpAbs, api.TpAbsVar, api.TpPlus, api.TpPlusVar, api.TpMinus, api.TpMinusVar}, p.Kind)
}

// source makes random arguments, always the same ones.
type source struct{ *rand.Rand }

func newSource(seed int64) source { return source{rand.New(rand.NewSource(seed))} }

// one returns one of a list.
func (r source) one(list ...string) string { return list[r.Intn(len(list))] }

// text returns a short string with few different bytes, so that they meet.
func (r source) text() string {
	var s strings.Builder
	for range r.Intn(14) {
		s.WriteString(r.one("a", "b", " ", " ", "1", "3", "'", "ab"))
	}
	return s.String()
}

// part returns a part of a template.
func (r source) part() api.Part {
	switch kind := 1 + r.Intn(15); kind {
	case api.TpDot, api.TpComma:
		return api.Part{Kind: kind}
	case api.TpLit:
		return api.Part{Kind: kind, Text: r.one("a", "b", "ab", " ", "3", "'", "a b", "bb", "zz", "", r.text())}
	case api.TpLitVar, api.TpAbsVar, api.TpPlusVar, api.TpMinusVar:
		return api.Part{Kind: kind, Text: r.one("A", "B", "C", "L", "N", "N", "N", "O", "O", "U")}
	case api.TpAbs, api.TpPlus, api.TpMinus:
		return api.Part{Kind: kind, N: []int{0, 1, 2, 3, 5, 8, 12, 30, api.MaxColumn}[r.Intn(9)]}
	}
	return api.Part{Kind: api.TpVar, Text: r.one("A", "B", "C", "D", "A.", "A.B", "A.1", "N", "L")}
}

// template returns a template.
func (r source) template() []api.Part {
	var t []api.Part
	for range r.Intn(12) {
		t = append(t, r.part())
	}
	return t
}

// strings returns the strings for a template.
func (r source) strings() []string {
	var list []string
	for range r.Intn(5) {
		list = append(list, r.text())
	}
	return list
}

// vars returns variables.
func (r source) vars() []api.Pair {
	list := pairs("N", r.one("0", "1", "2", "4", "007", "10", "999999999"), "O", r.one("1", "3", "5", "000000002", "", "x", " 1", "+1", "1234567890"), "L", r.one("a", " ", "b ", "ab", "", "3"), "A.", "0", "A.B", r.text(), "A", r.one("1", "2", "a"))
	r.Shuffle(len(list), func(i, j int) { list[i], list[j] = list[j], list[i] })
	return list[:r.Intn(len(list)+1)]
}
