package scan

import (
	"slices"
	"strings"

	"qanat/api"
)

// separator keeps two tokens without a gap apart.
const separator = "/**/"

// Write returns a source with the given tokens.
func Write(t []api.Token) (string, api.Errno) {
	signs := allSigns()
	var text strings.Builder
	for _, clause := range groups(t, isEnd) {
		for k, token := range clause {
			before := clause[:k:k]
			if isEnd(token) {
				text.WriteString(ending(before))
				continue
			}
			text.WriteString(between(before, token, signs))
			text.WriteString(written(token))
		}
	}
	src := text.String()
	tokens, stop := scanned(src, signs)
	switch {
	case stop.code != 0 || !Same(tokens, t):
		return "", api.ErrForm
	case len(src) > api.MaxSource:
		return "", api.ErrLimit
	}
	return src, api.OK
}

// ending returns what ends a clause: a comma would be a continuation at the end of a line.
func ending(clause []api.Token) string {
	if endsWithComma(clause) {
		return ";\n"
	}
	return "\n"
}

// written returns the text of a symbol, a literal or a sign.
func written(t api.Token) string {
	if t.Kind == api.TkLiteral {
		return quoted(t.Text)
	}
	return t.Text
}

// between returns what is written between the tokens of a clause so far and the next one.
func between(before []api.Token, next api.Token, signs map[string]bool) string {
	last := len(before) - 1
	switch {
	case next.Gap:
		return " "
	case last < 0:
		return ""
	}
	from := last
	if last > 0 && !before[last].Gap && before[last-1].Kind == api.TkSymbol { // it may have an exponent
		from = last - 1
	}
	if areFound(append(before[from:last+1:last+1], next), signs) {
		return ""
	}
	return separator
}

// areFound reports whether the rules of scanning find just these tokens in their text, written without anything between them.
func areFound(tokens []api.Token, signs map[string]bool) bool {
	var text strings.Builder
	for _, t := range tokens {
		text.WriteString(written(t))
	}
	var found []api.Token
	stop := caught(func() {
		for p := range pieces(text.String(), signs) {
			found = append(found, p.token)
		}
	})
	return stop.code == 0 && slices.EqualFunc(found, tokens, isAlike)
}
