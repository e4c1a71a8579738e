package syn

import (
	"slices"

	"qanat/api"
	"qanat/scan"
)

// The codes of the language that parsing finds.
const (
	codeMany      = 5  // more than MaxClauses statements
	codeWhen      = 7  // WHEN is expected
	codeThen      = 8  // THEN or ELSE is not expected
	codeOtherwise = 9  // WHEN or OTHERWISE is not expected
	codeEnd       = 10 // END is not expected, or not with this name
	codeNest      = 11 // nested more than MaxNest deep
	codeOpen      = 14 // the source ends inside a statement
	codeProcedure = 17 // PROCEDURE behind THEN or ELSE
	codeNoThen    = 18 // THEN is expected
	codeName      = 19 // a name is expected
	codeSymbol    = 20 // a symbol is expected
	codeMore      = 21 // more than a whole clause
	codeWord      = 25 // no word of this instruction
	codeDo        = 27 // no word for this place of a DO
	codeConstant  = 31 // a constant symbol is assigned a value
	codeExpr      = 35 // no expression, or an invalid one
	codeParen     = 36 // a parenthesis is not closed
	codeComma     = 37 // a comma or a parenthesis is not expected
	codeTemplate  = 38 // no part of a template
	codeArgs      = 40 // more than MaxArgs arguments
	codeList      = 46 // the parentheses of a list or a template contain something else
	codeLabel     = 47 // a label is not expected
)

// fault is an error of a source; the zero fault is none.
type fault struct{ code, line int }

// caught runs a part of parsing and returns the fault with which it panics; the zero fault if there is none.
func caught(run func()) (found fault) {
	defer func() {
		if f, is := recover().(fault); is {
			found = f
		}
	}()
	run()
	return fault{}
}

// parser reads the tokens of a source; it panics with a fault at the first error.
type parser struct {
	tokens       []api.Token
	stop         fault // the error of scanning behind the tokens
	at           int
	instructions map[string]instruction
	inner        bool // no labels
	depth, count int  // of the statement that was begun last: how deep it is, and which one
	levels       map[string]int
	ends         []string // the words that end the expression
	open         int      // how many parentheses of the expression are open
}

// parsed returns what read finds in a source; or a code and its line.
func parsed[T any](src string, read func(*parser) T) (T, int, int, api.Errno) {
	var none, found T
	tokens, code, line, e := scan.Tokens(src)
	if e == api.ErrLimit {
		return none, 0, 0, e
	}
	p := parser{tokens: tokens, stop: fault{code, line}, levels: operatorLevels()}
	p.instructions = p.allInstructions()
	if f := caught(func() { found = read(&p) }); f.code != 0 {
		return none, f.code, f.line, api.ErrCode
	}
	return found, 0, 0, api.OK
}

// peek returns the token k places ahead; behind the last one a token without a kind, in its line.
func (p *parser) peek(k int) api.Token {
	switch {
	case p.at+k < len(p.tokens):
		return p.tokens[p.at+k]
	case p.stop.code != 0:
		panic(p.stop)
	case len(p.tokens) == 0:
		return api.Token{Line: 1}
	}
	return api.Token{Line: p.tokens[len(p.tokens)-1].Line}
}

// fail panics with a code, in the line of the next token.
func (p *parser) fail(code int) { panic(fault{code, p.peek(0).Line}) }

// isDone reports whether there are no tokens left.
func (p *parser) isDone() bool { return p.peek(0).Kind == 0 }

func (p *parser) isEnd() bool { return p.peek(0).Kind == api.TkEnd }

// isSign reports whether the next token is one of these signs.
func (p *parser) isSign(signs ...string) bool { return isOneOf(p.peek(0), api.TkSign, signs) }

// isWord reports whether the next token is one of these words.
func (p *parser) isWord(words ...string) bool { return isOneOf(p.peek(0), api.TkSymbol, words) }

func isOneOf(t api.Token, kind int, texts []string) bool {
	return t.Kind == kind && slices.Contains(texts, t.Text)
}

// accept reads one of these words and returns it; nothing if another token is next.
func (p *parser) accept(words ...string) string {
	if !p.isWord(words...) {
		return ""
	}
	p.at++
	return p.tokens[p.at-1].Text
}

// expect reads one of these words and returns it.
func (p *parser) expect(code int, words ...string) string {
	word := p.accept(words...)
	if word == "" {
		p.fail(code)
	}
	return word
}

// symbol reads a symbol of one of these kinds and returns it.
func (p *parser) symbol(code int, kinds ...int) string {
	t := p.peek(0)
	if t.Kind != api.TkSymbol || !slices.Contains(kinds, symbolKind(t.Text)) {
		p.fail(code)
	}
	p.at++
	return t.Text
}

// variable reads a variable symbol and returns it.
func (p *parser) variable(code int) string {
	return p.symbol(code, api.SySimple, api.SyStem, api.SyComp)
}

// name reads a simple symbol or a literal and returns it; true if it is a literal.
func (p *parser) name() (string, bool) {
	if t := p.peek(0); t.Kind == api.TkLiteral {
		p.at++
		return t.Text, true
	}
	return p.symbol(codeName, api.SySimple), false
}

func symbolKind(text string) int {
	_, kind, _ := scan.Symbol(text)
	return kind
}

// sign reads one of these signs.
func (p *parser) sign(code int, signs ...string) {
	if !p.isSign(signs...) {
		p.fail(code)
	}
	p.at++
}

// past checks the token behind a clause, or an expression, that is complete, for what would be an error behind any other one, too.
func (p *parser) past() {
	if p.isSign(",", ")") {
		p.fail(codeComma)
	}
	if p.isSign(`\`) {
		p.fail(codeExpr)
	}
}

// endClause reads the end of a clause.
func (p *parser) endClause() {
	p.past()
	if !p.isEnd() {
		p.fail(codeMore)
	}
	p.at++
}

// several returns what one reads: once, and again as long as there are more.
func several[T any](one func() T, more func() bool) []T {
	list := []T{one()}
	for more() {
		list = append(list, one())
	}
	return list
}
