package syn_test

import (
	"slices"
	"strings"

	"qanat/api"
)

// builder writes a random source, together with the tree that it has: everything that the grammar leaves open is chosen at random.
type builder struct {
	dice
	text strings.Builder
	ends []string // the words that end the expression
	open int      // how many parentheses of the expression are open
	last string   // what was written last
}

func newBuilder(seed int64) *builder { return &builder{dice: newDice(seed)} }

// put writes a text as it is.
func (b *builder) put(s string) {
	b.text.WriteString(s)
	b.last = s
}

// word writes a word in letters of any case.
func (b *builder) word(s string) {
	b.put(b.one(s, strings.ToLower(s), s[:1]+strings.ToLower(s[1:])))
}

// line returns the line of what is written next.
func (b *builder) line() int { return 1 + strings.Count(b.text.String(), "\n") }

// gap writes something that is a blank.
func (b *builder) gap() {
	b.text.WriteString(b.one(" ", " ", " ", "  ", " /* it's */", "/**/ ", " /*/* */\n*/ ", ",\n", " , /* */\n "))
}

// maybe writes a gap, or nothing, where it does not matter.
func (b *builder) maybe() {
	if b.in(4) {
		b.text.WriteString(b.one(" ", "  ", " /* a; */", " /*\n*/ "))
	}
}

// end ends a clause.
func (b *builder) end() {
	b.maybe()
	if b.last == "," {
		b.put(";")
	}
	b.put(b.one(";", "; ", "\n", "\n", "\n\n", " ; ; \n"))
}

// mayEnd ends a clause, or writes a gap.
func (b *builder) mayEnd() {
	if b.in(2) {
		b.end()
	} else {
		b.gap()
	}
}

func (b *builder) simple() string {
	return b.one("A", "B", "X", "I", "N1", "_A", "WHAT?", "TO", "BY", "WHILE", "THEN", "WITH", "FOREVER", "OTHERWISE", "END", "SAY", "ON")
}

// variable returns a variable symbol.
func (b *builder) variable() string {
	return b.one(b.simple(), b.simple(), b.simple(), "S.", "A.1", "A.B", "A..", "T.N1.X")
}

func (b *builder) value() string {
	return b.one("", "a", "it's", `"`, "A b", ";", "/*", "x", ",", "say 1")
}

// literal writes a literal.
func (b *builder) literal(value string) {
	quote := b.one("'", `"`)
	b.put(quote + strings.ReplaceAll(value, quote, quote+quote) + quote)
}

// operators are the binary operators, from the lowest level.
func operators() [][]string {
	return [][]string{{"|", "&&"}, {"&"}, {"=", `\=`, ">", "<", ">=", "<=", "==", `\==`, ">>", "<<", ">>=", "<<="}, {" ", "||"}, {"+", "-"}, {"*", "/", "%", "//"}, {"**"}}
}

// expr writes an expression that these words end, and returns it.
func (b *builder) expr(depth int, ends ...string) api.Expr {
	b.ends, b.open = ends, 0
	return b.binary(0, depth)
}

// binary writes an expression whose operators outside parentheses have at least this level.
func (b *builder) binary(level, depth int) api.Expr {
	switch {
	case level == len(operators()):
		return b.operand(depth, true)
	case depth == 0 || b.Intn(10) < 8:
		return b.binary(level+1, depth)
	}
	left := b.binary(level, depth-1)
	operator := b.one(operators()[level]...)
	var right api.Expr
	if operator == " " || operator == "||" && b.in(2) {
		if operator == " " {
			b.gap()
		} else {
			b.put("/**/")
		}
		right = b.operand(depth-1, false)
	} else {
		b.maybe()
		b.put(b.synonym(operator))
		b.maybe()
		right = b.binary(level+1, depth-1)
	}
	return api.Expr{Kind: api.ExBin, Text: operator, Kids: []api.Expr{left, right}}
}

// synonym returns an operator as it can be written.
func (b *builder) synonym(operator string) string {
	list := map[string][]string{`\=`: {"><", "<>"}, "<=": {`\>`}, ">=": {`\<`}, "<<=": {`\>>`}, ">>=": {`\<<`}}[operator]
	return b.one(append(list, operator)...)
}

// operand writes an operand; prefix: it may begin with a prefix operator.
func (b *builder) operand(depth int, prefix bool) api.Expr {
	switch b.Intn(8) {
	case 0:
		if prefix && depth > 0 {
			operator := b.one("+", "-", `\`)
			b.put(operator)
			b.maybe()
			kid := b.operand(depth-1, true)
			return api.Expr{Kind: api.ExUn, Text: operator, Kids: []api.Expr{kid}}
		}
	case 1, 2:
		if depth > 0 {
			return b.inParens(func() api.Expr { return b.binary(0, depth-1) })
		}
	case 3:
		value := b.value()
		b.literal(value)
		if b.in(3) {
			return api.Expr{Kind: api.ExCall, Text: value, N: 1, Kids: b.arguments(depth)}
		}
		return lit(value)
	case 4:
		text := b.one("1", "0.5", ".", ".5", "1E+5", "2A")
		b.word(text)
		return api.Expr{Kind: api.ExConst, Text: text}
	}
	text := b.variable()
	if b.open == 0 && slices.Contains(b.ends, text) {
		return b.inParens(func() api.Expr { return b.symbol(text, depth) })
	}
	return b.symbol(text, depth)
}

// symbol writes a variable symbol, or a call of it.
func (b *builder) symbol(text string, depth int) api.Expr {
	b.word(text)
	switch {
	case b.in(4):
		return api.Expr{Kind: api.ExCall, Text: text, Kids: b.arguments(depth)}
	case !strings.Contains(text, "."):
		return v(text)
	case strings.Index(text, ".") == len(text)-1:
		return api.Expr{Kind: api.ExStem, Text: text}
	}
	return api.Expr{Kind: api.ExComp, Text: text}
}

func (b *builder) inParens(one func() api.Expr) api.Expr {
	b.put("(")
	b.open++
	b.maybe()
	e := one()
	b.maybe()
	b.open--
	b.put(")")
	return e
}

// arguments writes the arguments of a call, with their parentheses.
func (b *builder) arguments(depth int) []api.Expr {
	b.put("(")
	b.open++
	list := b.list(max(depth-1, 0))
	b.maybe()
	b.open--
	b.put(")")
	return list
}

// list writes arguments; a single one that is missing is none.
func (b *builder) list(depth int) []api.Expr {
	n := b.Intn(4)
	var list []api.Expr
	for k := range n {
		if k > 0 {
			b.maybe()
			b.put(",")
			b.maybe()
		}
		if n > 1 && b.in(4) {
			list = append(list, api.Expr{Kind: api.ExNone})
			continue
		}
		if b.open > 0 {
			list = append(list, b.binary(0, depth))
		} else {
			list = append(list, b.expr(depth))
		}
	}
	return list
}

// template writes a template.
func (b *builder) template() []api.Part {
	var parts []api.Part
	for range b.Intn(5) {
		b.gap()
		parts = append(parts, b.part())
	}
	return parts
}

func (b *builder) part() api.Part {
	kind := b.Intn(11) + 1
	sign := map[int]string{api.TpAbs: b.one("", "="), api.TpPlus: "+", api.TpMinus: "-", api.TpAbsVar: "=", api.TpPlusVar: "+", api.TpMinusVar: "-"}[kind]
	b.put(sign)
	if sign != "" {
		b.maybe()
	}
	switch kind {
	case api.TpVar:
		text := b.variable()
		b.word(text)
		return api.Part{Kind: kind, Text: text}
	case api.TpDot:
		b.put(".")
		return api.Part{Kind: kind}
	case api.TpLit:
		value := b.value()
		b.literal(value)
		return api.Part{Kind: kind, Text: value}
	case api.TpComma:
		b.put(",")
		return api.Part{Kind: kind}
	case api.TpAbs, api.TpPlus, api.TpMinus:
		column := b.one("0", "1", "20", "007", "999999999")
		b.put(column)
		return api.Part{Kind: kind, N: map[string]int{"0": 0, "1": 1, "20": 20, "007": 7, "999999999": 999999999}[column]}
	}
	text := b.simple()
	b.put("(")
	b.maybe()
	b.word(text)
	b.maybe()
	b.put(")")
	return api.Part{Kind: kind, Text: text}
}
