package cut

import (
	"strings"

	"qanat/api"
)

func isDigit(x byte) bool { return x >= '0' && x <= '9' }

// isNameByte reports whether a byte may be in a simple symbol in uppercase.
func isNameByte(x byte) bool {
	return x >= 'A' && x <= 'Z' || isDigit(x) || x == '_' || x == '!' || x == '?'
}

func isTailByte(x byte) bool { return x == '.' || isNameByte(x) }

func isPlain(x byte) bool { return x >= 32 && x <= 126 }

// every reports whether all bytes of s are such that is is true.
func every(s string, is func(byte) bool) bool {
	for k := range len(s) {
		if !is(s[k]) {
			return false
		}
	}
	return true
}

// isString reports whether s is a string of the language.
func isString(s string) bool { return len(s) <= api.MaxString && every(s, isPlain) }

// isSimple reports whether s is a simple symbol in uppercase that does not begin with a digit.
func isSimple(s string) bool {
	return s != "" && len(s) <= api.MaxName && !isDigit(s[0]) && every(s, isNameByte)
}

// isVariable reports whether s is a variable symbol in uppercase: a simple one, or one with a stem.
func isVariable(s string) bool {
	symbol, tail, _ := strings.Cut(s, ".")
	return len(s) <= api.MaxName && isSimple(symbol) && every(tail, isTailByte)
}
