package pool

import (
	"strings"

	"qanat/api"
)

func isDigit(x byte) bool { return x >= '0' && x <= '9' }

// isNameByte reports whether a byte may be in a simple symbol in uppercase.
func isNameByte(x byte) bool {
	return x >= 'A' && x <= 'Z' || isDigit(x) || x == '_' || x == '!' || x == '?'
}

func isPlain(x byte) bool { return x >= 32 && x <= 126 }

// every reports whether all bytes of s are such that is is true.
func every(s string, is func(byte) bool) bool {
	for k := range len(s) {
		if !is(s[k]) {
			return false
		}
	}
	return true
}

// isSimple reports whether s has the form of a simple symbol in uppercase, of whatever length.
func isSimple(s string) bool { return s != "" && !isDigit(s[0]) && every(s, isNameByte) }

// isValue reports whether s is a string of the language.
func isValue(s string) bool { return len(s) <= api.MaxString && every(s, isPlain) }

// isName reports whether s is the name of a variable: a symbol, or a stem with its period, and what follows it.
func isName(s string) bool {
	symbol, _, hasPeriod := strings.Cut(s, ".")
	length := len(symbol)
	if hasPeriod {
		length++
	}
	return length <= api.MaxName && isSimple(symbol) && isValue(s)
}

// isSymbol reports whether s is a variable symbol in uppercase.
func isSymbol(s string) bool {
	symbol, tail, _ := strings.Cut(s, ".")
	return len(s) <= api.MaxName && isSimple(symbol) && every(tail, func(x byte) bool { return x == '.' || isNameByte(x) })
}

// isStem reports whether a name is a stem.
func isStem(name string) bool { return strings.IndexByte(name, '.') == len(name)-1 }

// stemOf returns the stem with which a name, or a symbol, begins; the empty string, which is no name, if there is none.
func stemOf(name string) string { return name[:strings.IndexByte(name, '.')+1] }

// joined joins the parts of a name.
func joined(parts ...string) string { return strings.Join(parts, ".") }
