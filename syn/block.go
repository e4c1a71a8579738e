package syn

import (
	"slices"
	"strings"

	"qanat/api"
)

func (p *parser) ifThen(s *api.Stmt) {
	s.Exprs = []api.Expr{p.conditionThen()}
	s.Body = p.branch()
	if p.isKeyword("ELSE") {
		p.at++
		s.Else = p.branch()
	}
}

// conditionThen parses the condition of IF or WHEN, and THEN.
func (p *parser) conditionThen() api.Expr {
	e := p.expression("THEN")
	is := p.isWord("THEN")
	if p.isEnd() { // behind it THEN begins a clause, which could be an assignment
		p.at++
		is = p.isKeyword("THEN")
	}
	if p.isDone() {
		p.fail(codeOpen)
	}
	p.past()
	if !is {
		p.fail(codeNoThen)
	}
	p.at++
	return e
}

func (p *parser) selectWhen(s *api.Stmt) {
	if !p.isEnd() {
		p.fail(codeMore)
	}
	p.at++
	s.Whens = several(p.when, func() bool { return !p.isKeyword("OTHERWISE", "END") })
	if p.isKeyword("OTHERWISE") {
		p.at++
		p.skipEnd()
		s.N = 1
		s.Else = p.body()
	}
	p.end("")
}

func (p *parser) when() api.When {
	if p.isDone() {
		p.fail(codeOpen)
	}
	if !p.isKeyword("WHEN") {
		p.fail(codeWhen)
	}
	w := api.When{Line: p.peek(0).Line}
	p.at++
	w.Cond = p.conditionThen()
	w.Body = p.branch()
	return w
}

// end parses the END of a block with this control variable (nothing: without one).
func (p *parser) end(variable string) {
	line := p.peek(0).Line
	p.at++
	if !p.isEnd() && p.variable(codeSymbol) != variable {
		panic(fault{codeEnd, line})
	}
	p.endClause()
}

// The words of a DO, in the order of their kinds.
const (
	repWords  = "TO BY FOR"
	testWords = "WHILE UNTIL"
	doWords   = repWords + " " + testWords
)

func (p *parser) do(s *api.Stmt) {
	p.repetitor(s)
	if word := p.accept(strings.Fields(testWords)...); word != "" {
		s.Test = 1 + slices.Index(strings.Fields(testWords), word)
		s.Cond = p.doExpression()
	}
	if p.isWord(strings.Fields(doWords)...) {
		p.fail(codeDo)
	}
	p.endClause()
	s.Body = p.body()
	p.end(s.Name)
}

// doExpression parses an expression of a DO, as a list.
func (p *parser) doExpression() []api.Expr { return p.one(strings.Fields(doWords)...) }

func (p *parser) repetitor(s *api.Stmt) {
	switch {
	case p.isEnd():
	case p.begins("="):
		s.Loop = api.LpOver
		p.over(s)
	case p.accept("FOREVER") != "":
		s.Loop = api.LpForever
	case p.isWord(strings.Fields(doWords)...):
		s.Loop = api.LpCond
	default:
		s.Loop = api.LpCount
		s.Exprs = p.doExpression()
	}
}

// over parses the control variable of a loop, and its values.
func (p *parser) over(s *api.Stmt) {
	switch symbolKind(p.peek(0).Text) {
	case api.SyConst:
		p.fail(codeConstant)
	case api.SyStem:
		p.fail(codeSymbol)
	}
	s.Name = p.peek(0).Text
	p.at += 2
	s.Exprs = p.doExpression()
	words := strings.Fields(repWords)
	for p.isWord(words...) {
		kind := 1 + slices.Index(words, p.peek(0).Text)
		if slices.ContainsFunc(s.Reps, func(r api.Rep) bool { return r.Kind == kind }) {
			p.fail(codeDo)
		}
		p.at++
		s.Reps = append(s.Reps, api.Rep{Kind: kind, Expr: p.expression(strings.Fields(doWords)...)})
	}
}
