package cut

import (
	"slices"
	"strconv"
	"strings"

	"qanat/api"
)

// codeColumn is the code of the language for a column that is not a number.
const codeColumn = 26

// mostDigits is how many digits the value of a column may have.
const mostDigits = 9

// cutting is the application of a template: its pieces, the variables (those that were given first), where each of them is in the list, the names that stood for themselves, and the code.
type cutting struct {
	template []api.Part
	pieces   []api.Piece
	vars     []api.Pair
	index    map[string]int
	unset    []string
	code     int
}

// applied applies a template.
func applied(t []api.Part, strs []string, vars []api.Pair) *cutting {
	c := &cutting{template: t, vars: slices.Clone(vars), index: map[string]int{}}
	for k, pair := range vars {
		c.index[pair.Name] = k
	}
	section := 0
	str, text := sectionText(strs, section)
	cut := cutter(text)
application:
	for r := range runs(t) {
		x, is := c.pattern(r)
		if !is {
			c.code = codeColumn
			break application
		}
		from, to := cut(r.pattern.Kind, x)
		for k, span := range spans(text[from:to], r.n) {
			c.give(text, api.Piece{Part: r.first + k, Str: str, From: from + span[0], To: from + span[1]})
		}
		if r.pattern.Kind == api.TpComma {
			section++
			str, text = sectionText(strs, section)
			cut = cutter(text)
		}
	}
	return c
}

// sectionText returns the string of a section, and its index.
func sectionText(strs []string, section int) (int, string) {
	if section < len(strs) {
		return section, strs[section]
	}
	return -1, ""
}

// pattern returns what the pattern of a run looks for; false if it is a column whose value is none.
func (c *cutting) pattern(r run) (pattern, bool) {
	x := pattern{literal: r.pattern.Text, column: r.pattern.N, isAnchor: r.isAnchor()}
	if !isByVariable(r.pattern) {
		return x, true
	}
	x.literal = c.value(r.pattern.Text)
	if r.pattern.Kind == api.TpLitVar {
		return x, true
	}
	column, is := columnOf(x.literal)
	x.column = column
	return x, is
}

// columnOf returns the column that a value tells, if it tells one.
func columnOf(value string) (int, bool) {
	if value == "" || len(value) > mostDigits || !every(value, isDigit) {
		return 0, false
	}
	column, err := strconv.Atoi(value)
	return column, err == nil
}

// value returns the value of a variable, or its name.
func (c *cutting) value(name string) string {
	k, is := c.index[name]
	if !is {
		c.unset = append(c.unset, name)
		return name
	}
	return c.vars[k].Value
}

// give gives a target its piece, whose value is still missing.
func (c *cutting) give(text string, piece api.Piece) {
	piece.Value = text[piece.From:piece.To]
	c.pieces = append(c.pieces, piece)
	target := c.template[piece.Part]
	if target.Kind != api.TpVar {
		return
	}
	k, is := c.index[target.Text]
	if !is {
		k = len(c.vars)
		c.index[target.Text] = k
		c.vars = append(c.vars, api.Pair{Name: target.Text})
	}
	c.vars[k].Value = piece.Value
}

// spans returns the offsets of the words of a piece among n targets.
func spans(s string, n int) [][2]int {
	list := make([][2]int, 0, n)
	at := 0
	for k := range n {
		from, to := at, len(s)
		if k < n-1 {
			from = len(s) - len(strings.TrimLeft(s[at:], " "))
			word, _, _ := strings.Cut(s[from:], " ")
			to = from + len(word)
			at = min(to+1, len(s))
		}
		list = append(list, [2]int{from, to})
	}
	return list
}
