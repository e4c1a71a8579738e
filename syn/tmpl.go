package syn

import (
	"strconv"

	"qanat/api"
)

// template parses a template, up to the end of the clause.
func (p *parser) template() []api.Part {
	var parts []api.Part
	for !p.isEnd() {
		if len(parts) == api.MaxParts {
			p.fail(codeTemplate)
		}
		part := p.part()
		parts = append(parts, part)
	}
	return parts
}

// part parses a part of a template.
func (p *parser) part() api.Part {
	t := p.peek(0)
	switch {
	case t.Kind == api.TkLiteral:
		p.at++
		return api.Part{Kind: api.TpLit, Text: t.Text}
	case p.isWord("."):
		p.at++
		return api.Part{Kind: api.TpDot}
	case p.isSign(","):
		p.at++
		return api.Part{Kind: api.TpComma}
	case p.isSign("("):
		return api.Part{Kind: api.TpLitVar, Text: p.partVariable()}
	case p.isSign("=", "+", "-"):
		p.at++
		return p.position(t.Text)
	case t.Kind == api.TkSymbol && symbolKind(t.Text) != api.SyConst:
		p.at++
		return api.Part{Kind: api.TpVar, Text: t.Text}
	}
	return api.Part{Kind: api.TpAbs, N: p.column()}
}

// position parses what follows one of the signs =, + and - in a template.
func (p *parser) position(sign string) api.Part {
	if p.isSign("(") {
		kinds := map[string]int{"=": api.TpAbsVar, "+": api.TpPlusVar, "-": api.TpMinusVar}
		return api.Part{Kind: kinds[sign], Text: p.partVariable()}
	}
	kinds := map[string]int{"=": api.TpAbs, "+": api.TpPlus, "-": api.TpMinus}
	return api.Part{Kind: kinds[sign], N: p.column()}
}

// partVariable parses a simple symbol in parentheses.
func (p *parser) partVariable() string {
	p.at++
	name := p.symbol(codeList, api.SySimple)
	p.sign(codeList, ")")
	return name
}

// column parses a constant symbol that is a column, or a number of columns.
func (p *parser) column() int {
	t := p.peek(0)
	n, err := strconv.Atoi(t.Text)
	if t.Kind != api.TkSymbol || err != nil || n > api.MaxColumn {
		p.fail(codeTemplate)
	}
	p.at++
	return n
}
