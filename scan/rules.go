package scan

import (
	"iter"
	"strings"

	"qanat/api"
)

// The rules of scanning, in the order in which they are tried.
const (
	ruleLine = iota + 1
	ruleBlank
	ruleComment
	ruleLiteral
	ruleSymbol
	ruleSign
	ruleOther
)

// The codes of the language that scanning finds.
const (
	codeOpen   = 6  // a literal or a comment is not closed
	codeByte   = 13 // a byte is not allowed there
	codeDigits = 15 // a literal does not have the digits that its letter needs
	codeLong   = 30 // a symbol or a literal is too long
)

// fault is an error that scanning finds.
type fault struct{ code, line int }

// caught runs a part of scanning and returns the fault with which it panics; the zero fault if there is none.
func caught(run func()) (found fault) {
	defer func() {
		if f, is := recover().(fault); is {
			found = f
		}
	}()
	run()
	return fault{}
}

// piece is what a rule takes from a source: a token, or the end of a line, which has no kind and no text. The gap of its token is that of the rules alone, whatever its clause is.
type piece struct {
	rule  int
	token api.Token
}

// reader reads a source from left to right; it panics with a fault at the first error.
type reader struct {
	src      string
	signs    map[string]bool
	at, line int
}

// allSigns returns the signs of the language.
func allSigns() map[string]bool {
	set := map[string]bool{}
	for _, s := range strings.Fields(`\== \>> \<< >>= <<= ** // || && == \= \> \< >= <= >> << >< <> + - * / % | & = > < \ ( ) , : ;`) {
		set[s] = true
	}
	return set
}

// maxSign is the length of the longest signs.
const maxSign = 3

// pieces yields what the rules find in a source, without blanks and comments.
func pieces(src string, signs map[string]bool) iter.Seq[piece] {
	return func(yield func(piece) bool) {
		r := reader{src: src, signs: signs, line: 1}
		gap := false
	next:
		for r.at < len(src) {
			rule := r.rule()
			token := api.Token{Gap: gap, Line: r.line, At: r.at}
			switch rule {
			case ruleLine:
				r.at++
				r.line++
			case ruleBlank:
				r.at++
				gap = true
				continue next
			case ruleComment:
				r.comment()
				continue next
			case ruleLiteral:
				token.Kind, token.Text = api.TkLiteral, r.literal()
			case ruleSymbol:
				token.Kind, token.Text = api.TkSymbol, r.symbol()
			case ruleSign:
				token.Kind, token.Text = api.TkSign, r.sign()
			default:
				panic(fault{codeByte, r.line})
			}
			token.To = r.at
			if !yield(piece{rule, token}) {
				return
			}
			gap = false
		}
	}
}

// rule returns the first rule that applies to the next byte.
func (r *reader) rule() int {
	x := r.src[r.at]
	switch {
	case x == '\n':
		return ruleLine
	case x == ' ':
		return ruleBlank
	case strings.HasPrefix(r.src[r.at:], "/*"):
		return ruleComment
	case isQuote(x):
		return ruleLiteral
	case isSymbolByte(x):
		return ruleSymbol
	case r.signLength() > 0:
		return ruleSign
	}
	return ruleOther
}

// comment reads a comment.
func (r *reader) comment() {
	to, closed := commentEnd(r.src, r.at)
	if !closed {
		panic(fault{codeOpen, r.line})
	}
	for ; r.at < to; r.at++ {
		x := r.src[r.at]
		switch {
		case x == '\n':
			r.line++
		case !isPlain(x):
			panic(fault{codeByte, r.line})
		}
	}
}

// commentEnd returns the end of the comment that begins at an offset; false if it is not closed.
func commentEnd(src string, at int) (int, bool) {
	depth := 0
	for at+1 < len(src) {
		switch src[at : at+2] {
		case "/*":
			depth++
			at += 2
		case "*/":
			depth--
			at += 2
		default:
			at++
		}
		if depth == 0 {
			return at, true
		}
	}
	return 0, false
}

// symbol reads a symbol and returns it in uppercase.
func (r *reader) symbol() string {
	to := symbolEnd(r.src, r.at)
	text := r.src[r.at:to]
	if len(text) > api.MaxName {
		panic(fault{codeLong, r.line})
	}
	r.at = to
	return strings.ToUpper(text)
}

// sign reads a sign.
func (r *reader) sign() string {
	from := r.at
	r.at += r.signLength()
	return r.src[from:r.at]
}

// signLength returns the length of the longest sign at the next byte; 0 if there is none.
func (r *reader) signLength() int {
	length := min(maxSign, len(r.src)-r.at)
	for length > 0 && !r.signs[r.src[r.at:r.at+length]] {
		length--
	}
	return length
}

// isPlain reports whether a byte may be in a string of the language.
func isPlain(x byte) bool { return x >= 32 && x <= 126 }

func isPlainText(s string) bool {
	for k := range len(s) {
		if !isPlain(s[k]) {
			return false
		}
	}
	return true
}
