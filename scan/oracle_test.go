package scan_test

import (
	"regexp"
	"strconv"
	"strings"

	"qanat/api"
)

// A scanner that shares nothing with the package: it finds tokens with regular expressions, and gaps by looking at the bytes between them.

var (
	literalForm  = regexp.MustCompile(`^(?s:'(?:[^'\n]|'')*'|"(?:[^"\n]|"")*")`)
	suffixForm   = regexp.MustCompile(`^[XxBb](?:[^A-Za-z0-9._!?]|\z)`)
	symbolForm   = regexp.MustCompile(`^(?:(?:[0-9]+\.?[0-9]*|\.[0-9]+)[Ee][-+][0-9]+|[A-Za-z0-9._!?]+)`)
	signForm     = longest(`^(?:\\==|\\>>|\\<<|>>=|<<=|\*\*|//|\|\||&&|==|\\=|\\>|\\<|>=|<=|>>|<<|><|<>|[-+*/%|&=><\\(),:;])`)
	markForm     = regexp.MustCompile(`/\*|\*/`)
	hexForm      = regexp.MustCompile(`^(?:[0-9A-Fa-f]{2})*$`)
	binaryForm   = regexp.MustCompile(`^(?:[01]{8})*$`)
	blankOutside = regexp.MustCompile(`[ \n]`)
)

func longest(form string) *regexp.Regexp {
	r := regexp.MustCompile(form)
	r.Longest()
	return r
}

// found is what the oracle finds: a token (of kind 0 at the end of a line), or a code.
type found struct {
	token api.Token
	code  int
	line  int
}

func lineOf(src string, at int) int {
	return 1 + len(regexp.MustCompile(`\n`).FindAllString(src[:at], -1))
}

// pastComment returns the end of the comment at the beginning of s; -1 if it is open.
func pastComment(s string) int {
	depth := 0
	for _, m := range markForm.FindAllStringIndex(s, -1) {
		depth += map[string]int{"/*": 1, "*/": -1}[s[m[0]:m[1]]]
		if depth == 0 {
			return m[1]
		}
	}
	return -1
}

// firstBad returns the offset of the first byte that is not allowed; -1 if there is none.
func firstBad(s string) int {
	return strings.IndexFunc(s, func(r rune) bool { return r != '\n' && (r < 32 || r > 126) })
}

// literalOf returns the length, the value and the code of the literal at the beginning of s.
func literalOf(s string) (int, string, int) {
	text := literalForm.FindString(s)
	rest := s[len(text):]
	switch {
	case text == "" || rest != "" && rest[0] == text[0]:
		return 0, "", 6
	case firstBad(text) >= 0:
		return 0, "", 13
	}
	content := text[1 : len(text)-1]
	value := strings.ReplaceAll(content, text[:1]+text[:1], text[:1])
	length := len(text)
	if suffixForm.MatchString(rest) {
		length++
		form, size, base := hexForm, 2, 16
		if strings.ContainsAny(rest[:1], "Bb") {
			form, size, base = binaryForm, 8, 2
		}
		if !form.MatchString(content) {
			return 0, "", 15
		}
		value = ""
		for ; content != ""; content = content[size:] {
			x, _ := strconv.ParseInt(content[:size], base, 64)
			if x < 32 || x > 126 {
				return 0, "", 15
			}
			value += string(rune(x))
		}
	}
	if len(value) > 1000 {
		return 0, "", 30
	}
	return length, value, 0
}

// oracleItems returns what the rules 1 to 7 find in a source.
func oracleItems(src string) []found {
	var list []found
	for at := 0; at < len(src); {
		s, line, length, kind, value, code := src[at:], lineOf(src, at), 0, 0, "", 0
		switch {
		case s[0] == '\n':
			length = 1
		case s[0] == ' ':
			at++
			continue
		case strings.HasPrefix(s, "/*"):
			to := pastComment(s)
			if to < 0 {
				return append(list, found{code: 6, line: line})
			}
			if bad := firstBad(s[:to]); bad >= 0 {
				return append(list, found{code: 13, line: lineOf(src, at+bad)})
			}
			at += to
			continue
		case s[0] == '\'' || s[0] == '"':
			kind = api.TkLiteral
			length, value, code = literalOf(s)
		case symbolForm.MatchString(s):
			kind = api.TkSymbol
			length = len(symbolForm.FindString(s))
			value = strings.ToUpper(s[:length])
			if length > 40 {
				code = 30
			}
		case signForm.MatchString(s):
			kind = api.TkSign
			value = signForm.FindString(s)
			length = len(value)
		default:
			code = 13
		}
		if code != 0 {
			return append(list, found{code: code, line: line})
		}
		list = append(list, found{token: api.Token{Kind: kind, Text: value, Line: line, At: at, To: at + length}})
		at += length
	}
	return list
}

// uncommented returns s, which consists of whole comments and other bytes, without its comments.
func uncommented(s string) string {
	at := strings.Index(s, "/*")
	if at < 0 {
		return s
	}
	return s[:at] + uncommented(s[at+pastComment(s[at:]):])
}

// oracle returns the tokens of a source, the code and the line of its error, and whether it ends with a continuation.
func oracle(src string) (tokens []api.Token, code, line int, continued bool) {
	var clause []api.Token
	end := func(at, to int) {
		if len(clause) > 0 {
			tokens = append(append(tokens, clause...), api.Token{Kind: api.TkEnd, Line: lineOf(src, at), At: at, To: to})
		}
		clause = nil
	}
	comma := func() bool {
		is := len(clause) > 0 && clause[len(clause)-1].Kind == api.TkSign && clause[len(clause)-1].Text == ","
		if is {
			clause = clause[:len(clause)-1]
		}
		return is
	}
	for _, f := range oracleItems(src) {
		t := f.token
		switch {
		case f.code != 0:
			return append(tokens, clause...), f.code, f.line, false
		case t.Kind == 0:
			if !comma() {
				end(t.At, t.To)
			}
		case t.Kind == api.TkSign && t.Text == ";":
			end(t.At, t.To)
		default:
			if n := len(clause); n > 0 {
				t.Gap = blankOutside.MatchString(uncommented(src[clause[n-1].To:t.At]))
			}
			clause = append(clause, t)
			if len(clause) == 2 && clause[0].Kind == api.TkSymbol && t.Kind == api.TkSign && t.Text == ":" {
				end(t.To, t.To)
			}
		}
	}
	continued = comma()
	end(len(src), len(src))
	return tokens, 0, 0, continued
}

// oracleText returns the text of a symbol, a literal or a sign.
func oracleText(t api.Token) string {
	if t.Kind != api.TkLiteral {
		return t.Text
	}
	single := "'" + strings.ReplaceAll(t.Text, "'", "''") + "'"
	double := `"` + strings.ReplaceAll(t.Text, `"`, `""`) + `"`
	if len(double) < len(single) {
		return double
	}
	return single
}

// oracleApart reports whether tokens need something between the last two of them.
func oracleApart(list ...api.Token) bool {
	text := ""
	for _, t := range list {
		text += oracleText(t)
	}
	items := oracleItems(text)
	for k, f := range items {
		if f.code != 0 || k >= len(list) || f.token.Kind != list[k].Kind || f.token.Text != list[k].Text {
			return true
		}
	}
	return len(items) != len(list)
}

// oracleWrite returns the text of tokens, whether or not they are those of a source.
func oracleWrite(tokens []api.Token) string {
	text := ""
	for k, t := range tokens {
		first := k == 0 || tokens[k-1].Kind == api.TkEnd
		switch {
		case t.Kind == api.TkEnd && !first && tokens[k-1].Kind == api.TkSign && tokens[k-1].Text == ",":
			text += ";\n"
			continue
		case t.Kind == api.TkEnd:
			text += "\n"
			continue
		case t.Gap:
			text += " "
		case first:
		case k > 1 && !tokens[k-1].Gap && tokens[k-2].Kind == api.TkSymbol:
			if oracleApart(tokens[k-2 : k+1]...) {
				text += "/**/"
			}
		case oracleApart(tokens[k-1 : k+1]...):
			text += "/**/"
		}
		text += oracleText(t)
	}
	return text
}

// sameTokens reports whether tokens are equal up to their positions.
func sameTokens(a, b []api.Token) bool {
	if len(a) != len(b) {
		return false
	}
	for k := range a {
		if a[k].Kind != b[k].Kind || a[k].Text != b[k].Text || a[k].Gap != b[k].Gap {
			return false
		}
	}
	return true
}
