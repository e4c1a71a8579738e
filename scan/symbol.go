package scan

import (
	"strings"

	"qanat/api"
)

func isDigit(x byte) bool { return x >= '0' && x <= '9' }

func isLetter(x byte) bool { return x >= 'a' && x <= 'z' || x >= 'A' && x <= 'Z' }

func isSymbolByte(x byte) bool {
	return isLetter(x) || isDigit(x) || strings.IndexByte("._!?", x) >= 0
}

// runEnd returns the end of the bytes from an offset on for which is is true.
func runEnd(s string, at int, is func(byte) bool) int {
	for at < len(s) && is(s[at]) {
		at++
	}
	return at
}

// symbolEnd returns the end of the symbol that begins at an offset; the offset itself if none does.
func symbolEnd(s string, at int) int {
	to := runEnd(s, at, isSymbolByte)
	if to == len(s) || s[to] != '+' && s[to] != '-' || !awaitsExponent(s[at:to]) {
		return to
	}
	end := runEnd(s, to+1, isDigit)
	if end == to+1 {
		return to
	}
	return end
}

// awaitsExponent reports whether s consists of the digits of a number, with at most one period, and an E.
func awaitsExponent(s string) bool {
	digits, found := strings.CutSuffix(strings.ToUpper(s), "E")
	digits = strings.Replace(digits, ".", "", 1)
	return found && digits != "" && runEnd(digits, 0, isDigit) == len(digits)
}

// kindOf returns the kind of a symbol.
func kindOf(symbol string) int {
	period := strings.IndexByte(symbol, '.')
	switch {
	case isDigit(symbol[0]) || period == 0:
		return api.SyConst
	case period < 0:
		return api.SySimple
	case period == len(symbol)-1:
		return api.SyStem
	}
	return api.SyComp
}

// Symbol returns a symbol in uppercase, and its kind.
func Symbol(s string) (string, int, api.Errno) {
	if s == "" || len(s) > api.MaxName || symbolEnd(s, 0) < len(s) {
		return "", 0, api.ErrName
	}
	return strings.ToUpper(s), kindOf(s), api.OK
}

// Split returns the stem of a stem or of a compound symbol, and the parts of its tail.
func Split(s string) (string, []string, api.Errno) {
	symbol, kind, e := Symbol(s)
	if e != api.OK {
		return "", nil, e
	}
	if kind != api.SyStem && kind != api.SyComp {
		return "", nil, api.ErrForm
	}
	name, tail, _ := strings.Cut(symbol, ".")
	var parts []string
	if kind == api.SyComp { // a stem has an empty tail, which is not a part
		parts = strings.Split(tail, ".")
	}
	return name + ".", parts, api.OK
}
