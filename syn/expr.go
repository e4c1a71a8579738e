package syn

import (
	"slices"

	"qanat/api"
)

// The levels of the binary operators: those of a higher level are applied first.
const (
	levelNone = iota
	levelOr
	levelAnd
	levelCompare
	levelConcat
	levelAdd
	levelMultiply
	levelPower
)

// The concatenations.
const (
	blank   = " "
	abuttal = "||"
)

// operatorLevels returns the level of each binary operator.
func operatorLevels() map[string]int {
	levels := map[string]int{}
	for level, operators := range [][]string{
		levelOr:       {"|", "&&"},
		levelAnd:      {"&"},
		levelCompare:  {"=", `\=`, ">", "<", ">=", "<=", "==", `\==`, ">>", "<<", ">>=", "<<="},
		levelConcat:   {blank, abuttal},
		levelAdd:      {"+", "-"},
		levelMultiply: {"*", "/", "%", "//"},
		levelPower:    {"**"},
	} {
		for _, operator := range operators {
			levels[operator] = level
		}
	}
	return levels
}

// synonymOf returns the operator for which a sign stands.
func synonymOf(sign string) string {
	switch sign {
	case "><", "<>":
		return `\=`
	case `\>`:
		return "<="
	case `\<`:
		return ">="
	case `\>>`:
		return "<<="
	case `\<<`:
		return ">>="
	}
	return sign
}

// expression parses an expression that these words end.
func (p *parser) expression(ends ...string) api.Expr {
	first := p.peek(0)
	p.ends = ends
	e := p.binary(levelOr)
	if depthOf(e) > api.MaxNest {
		panic(fault{codeNest, first.Line})
	}
	return e
}

// depthOf returns how deep an expression is nested.
func depthOf(e api.Expr) int {
	depth := 0
	for _, kid := range e.Kids {
		depth = max(depth, depthOf(kid))
	}
	return depth + 1
}

// binary parses an expression whose operators outside parentheses have at least this level.
func (p *parser) binary(level int) api.Expr {
	left := p.operand()
	for {
		operator, width := p.operator()
		if operator == "" || p.levels[operator] < level {
			return left
		}
		p.at += width
		right := p.binary(p.levels[operator] + 1)
		left = api.Expr{Kind: api.ExBin, Text: operator, Kids: []api.Expr{left, right}}
	}
}

// operator returns the binary operator behind an operand, and how many tokens it occupies; nothing if the expression ends there.
func (p *parser) operator() (string, int) {
	t := p.peek(0)
	if operator := synonymOf(t.Text); t.Kind == api.TkSign && p.levels[operator] > levelNone {
		return operator, 1
	}
	switch {
	case !p.isAtom() && !p.isSign("("):
		return "", 0
	case t.Gap:
		return blank, 0
	}
	return abuttal, 0
}

// isAtom reports whether the next token is a literal or a symbol of the expression.
func (p *parser) isAtom() bool {
	if p.open == 0 && p.isWord(p.ends...) {
		return false
	}
	return slices.Contains([]int{api.TkSymbol, api.TkLiteral}, p.peek(0).Kind)
}

// operand parses an operand, with its prefix operators.
func (p *parser) operand() api.Expr {
	t := p.peek(0)
	switch {
	case p.isAtom():
		p.at++
		if next := p.peek(0); p.isSign("(") && next.At == t.To {
			return api.Expr{Kind: api.ExCall, Text: t.Text, N: flag(t.Kind == api.TkLiteral), Kids: p.callArguments()}
		}
		return atom(t)
	case p.isSign("+", "-", `\`):
		p.at++
		kid := p.operand()
		return api.Expr{Kind: api.ExUn, Text: t.Text, Kids: []api.Expr{kid}}
	case p.isSign("("):
		p.openParen()
		e := p.binary(levelOr)
		p.closeParen()
		return e
	case p.isSign(",", ")"):
		p.fail(codeComma)
	}
	p.fail(codeExpr)
	return api.Expr{}
}

// atom returns the expression that a symbol or a literal is.
func atom(t api.Token) api.Expr {
	if t.Kind == api.TkLiteral {
		return api.Expr{Kind: api.ExLit, Text: t.Text}
	}
	kind := api.ExComp
	switch symbolKind(t.Text) {
	case api.SyConst:
		kind = api.ExConst
	case api.SySimple:
		kind = api.ExVar
	case api.SyStem:
		kind = api.ExStem
	}
	return api.Expr{Kind: kind, Text: t.Text}
}

func flag(is bool) int {
	if is {
		return 1
	}
	return 0
}

func (p *parser) openParen() {
	p.at++
	p.open++
}

func (p *parser) closeParen() {
	if p.isSign(`\`) {
		p.fail(codeExpr)
	}
	p.sign(codeParen, ")")
	p.open--
}

// callArguments parses the arguments of a call, with their parentheses.
func (p *parser) callArguments() []api.Expr {
	var list []api.Expr
	p.openParen()
	if !p.isSign(")") {
		list = p.arguments(func() api.Expr { return p.binary(levelOr) })
	}
	p.closeParen()
	return list
}

// arguments parses arguments, separated by commas.
func (p *parser) arguments(one func() api.Expr) []api.Expr {
	commas := 0
	return several(func() api.Expr {
		if p.isEnd() || p.isSign(",", ")") {
			return api.Expr{Kind: api.ExNone}
		}
		return one()
	}, func() bool {
		if !p.isSign(",") {
			return false
		}
		commas++
		if commas == api.MaxArgs {
			p.fail(codeArgs)
		}
		p.at++
		return true
	})
}
