package syn

import (
	"slices"
	"strings"

	"qanat/api"
)

// numericWords are the words of NUMERIC, in the order of their numbers.
const numericWords = "DIGITS FUZZ FORM"

// instruction is the kind of an instruction's statement, and what parses its clause, or clauses, behind the keyword.
type instruction struct {
	kind  int
	parse func(*api.Stmt)
}

// allInstructions returns the instructions by their keywords.
func (p *parser) allInstructions() map[string]instruction {
	return map[string]instruction{
		"ADDRESS":   {api.StAddress, p.address},
		"ARG":       {api.StParse, p.arg},
		"CALL":      {api.StCall, p.call},
		"DO":        {api.StDo, p.do},
		"DROP":      {api.StDrop, p.drop},
		"EXIT":      {api.StExit, p.optional},
		"IF":        {api.StIf, p.ifThen},
		"INTERPRET": {api.StInterpret, p.required},
		"ITERATE":   {api.StIterate, p.loop},
		"LEAVE":     {api.StLeave, p.loop},
		"NOP":       {api.StNop, p.nothing},
		"NUMERIC":   {api.StNumeric, p.numeric},
		"PARSE":     {api.StParse, p.parse},
		"PROCEDURE": {api.StProcedure, p.procedure},
		"PULL":      {api.StParse, p.pull},
		"PUSH":      {api.StPush, p.optional},
		"QUEUE":     {api.StQueue, p.optional},
		"RETURN":    {api.StReturn, p.optional},
		"SAY":       {api.StSay, p.optional},
		"SELECT":    {api.StSelect, p.selectWhen},
		"SIGNAL":    {api.StSignal, p.signal},
		"TRACE":     {api.StTrace, p.trace},
	}
}

// program parses statements up to the end of the source.
func (p *parser) program() []api.Stmt {
	var list []api.Stmt
	for !p.isDone() {
		s := p.statement(false)
		list = append(list, s)
	}
	return list
}

// body parses statements up to an END, which is left.
func (p *parser) body() []api.Stmt {
	var list []api.Stmt
	for !p.isKeyword("END") {
		s := p.statement(false)
		list = append(list, s)
	}
	return list
}

// branch parses the statement behind THEN or ELSE.
func (p *parser) branch() []api.Stmt {
	p.skipEnd()
	return []api.Stmt{p.statement(true)}
}

func (p *parser) skipEnd() {
	if p.isEnd() {
		p.at++
	}
}

// begins reports whether the next clause begins with a symbol and one of these signs.
func (p *parser) begins(signs ...string) bool {
	return p.peek(0).Kind == api.TkSymbol && isOneOf(p.peek(1), api.TkSign, signs)
}

// isKeyword reports whether the next clause is one of these instructions, or these parts of one.
func (p *parser) isKeyword(words ...string) bool { return p.isWord(words...) && !p.begins("=", ":") }

// statement parses a statement; branch: it follows THEN or ELSE.
func (p *parser) statement(branch bool) api.Stmt {
	p.checkStatement()
	first := p.peek(0)
	s := api.Stmt{Line: first.Line}
	named, is := p.instructions[first.Text]
	p.count++
	p.depth++
	switch {
	case branch && p.isKeyword("PROCEDURE"):
		p.fail(codeProcedure)
	case is && p.isKeyword(first.Text):
		p.at++
		s.Kind = named.kind
		named.parse(&s)
	case p.begins("="):
		p.assignment(&s)
	case p.begins(":"):
		p.label(&s)
	default:
		s.Kind = api.StCommand
		p.required(&s)
	}
	p.depth--
	return s
}

// checkStatement checks that a statement can begin, in the order of the codes.
func (p *parser) checkStatement() {
	switch {
	case p.isDone():
		p.fail(codeOpen)
	case p.isKeyword("THEN", "ELSE"):
		p.fail(codeThen)
	case p.isKeyword("WHEN", "OTHERWISE"):
		p.fail(codeOtherwise)
	case p.isKeyword("END"):
		p.fail(codeEnd)
	case p.count == api.MaxClauses:
		p.fail(codeMany)
	case p.depth == api.MaxNest:
		p.fail(codeNest)
	}
}

func (p *parser) assignment(s *api.Stmt) {
	s.Kind = api.StAssign
	s.Name = p.variable(codeConstant)
	p.at++
	p.optional(s)
}

func (p *parser) label(s *api.Stmt) {
	if p.inner || p.depth > 1 {
		p.fail(codeLabel)
	}
	s.Kind = api.StLabel
	s.Name = p.peek(0).Text
	p.at += 2
	p.endClause()
}

// one parses an expression as a list.
func (p *parser) one(ends ...string) []api.Expr { return []api.Expr{p.expression(ends...)} }

func (p *parser) required(s *api.Stmt) {
	s.Exprs = p.one()
	p.endClause()
}

func (p *parser) optional(s *api.Stmt) {
	if !p.isEnd() {
		s.Exprs = p.one()
	}
	p.endClause()
}

func (p *parser) nothing(*api.Stmt) { p.endClause() }

func (p *parser) address(s *api.Stmt) {
	switch {
	case p.isEnd():
	case p.accept("VALUE") != "":
		s.N = 3
		s.Exprs = p.one()
	default:
		s.N = 1
		s.Name, _ = p.name()
		if !p.isEnd() {
			s.N = 2
			s.Exprs = p.one()
		}
	}
	p.endClause()
}

func (p *parser) call(s *api.Stmt) {
	if word := p.accept("ON", "OFF"); word != "" {
		s.Kind = api.StCallOn
		p.condition(s, word, "ERROR", "FAILURE", "HALT", "NOTREADY")
		return
	}
	name, isLiteral := p.name()
	s.Name, s.N = name, flag(isLiteral)
	if !p.isEnd() {
		s.Exprs = p.arguments(func() api.Expr { return p.expression() })
	}
	p.endClause()
}

func (p *parser) signal(s *api.Stmt) {
	switch word := p.accept("ON", "OFF", "VALUE"); word {
	case "":
		s.Name, _ = p.name()
	case "VALUE":
		s.N = 1
		s.Exprs = p.one()
	default:
		s.Kind = api.StSignalOn
		p.condition(s, word, "ERROR", "FAILURE", "HALT", "NOVALUE", "NOTREADY", "SYNTAX")
		return
	}
	p.endClause()
}

// condition parses what follows ON or OFF.
func (p *parser) condition(s *api.Stmt, word string, conditions ...string) {
	s.N = flag(word == "ON")
	s.Word = p.expect(codeWord, conditions...)
	if word == "ON" && !p.isEnd() {
		p.expect(codeWord, "NAME")
		s.Name = p.symbol(codeName, api.SySimple)
	}
	p.endClause()
}

// loop parses what follows ITERATE or LEAVE.
func (p *parser) loop(s *api.Stmt) {
	if !p.isEnd() {
		s.Name = p.variable(codeSymbol)
	}
	p.endClause()
}

func (p *parser) numeric(s *api.Stmt) {
	words := strings.Fields(numericWords)
	s.N = slices.Index(words, p.expect(codeWord, words...))
	if s.N < 2 {
		p.optional(s)
		return
	}
	if !p.isEnd() {
		s.Word = p.expect(codeWord, "SCIENTIFIC", "ENGINEERING")
	}
	p.endClause()
}

func (p *parser) arg(s *api.Stmt) { p.upper(s, "ARG") }

func (p *parser) pull(s *api.Stmt) { p.upper(s, "PULL") }

// upper parses the template behind ARG or PULL.
func (p *parser) upper(s *api.Stmt, word string) {
	s.N, s.Word = 1, word
	s.Tmpl = p.template()
	p.endClause()
}

func (p *parser) parse(s *api.Stmt) {
	s.N = flag(p.accept("UPPER") != "")
	s.Word = p.expect(codeWord, "ARG", "LINEIN", "PULL", "NUMERIC", "SOURCE", "VAR", "VALUE")
	switch s.Word {
	case "VAR":
		s.Name = p.variable(codeSymbol)
	case "VALUE":
		if !p.isEnd() && !p.isWord("WITH") {
			s.Exprs = p.one("WITH")
			p.past()
		}
		p.expect(codeWord, "WITH")
	}
	s.Tmpl = p.template()
	p.endClause()
}

func (p *parser) drop(s *api.Stmt) {
	s.Items = p.items()
	p.endClause()
}

func (p *parser) procedure(s *api.Stmt) {
	if !p.isEnd() {
		p.expect(codeWord, "EXPOSE")
		s.N = 1
		s.Items = p.items()
	}
	p.endClause()
}

// items parses the items of a list, up to the end of the clause.
func (p *parser) items() []api.Item {
	return several(p.item, func() bool { return !p.isEnd() })
}

func (p *parser) item() api.Item {
	if !p.isSign("(") {
		return api.Item{Name: p.variable(codeSymbol)}
	}
	p.at++
	name := p.variable(codeList)
	p.sign(codeList, ")")
	return api.Item{Name: name, Via: true}
}

func (p *parser) trace(s *api.Stmt) {
	if t := p.peek(0); t.Kind == api.TkSign {
		p.fail(codeMore)
	} else if t.Kind != api.TkEnd {
		p.at++
		s.Word = t.Text
	}
	p.endClause()
}
