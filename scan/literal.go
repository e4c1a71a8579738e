package scan

import (
	"strconv"
	"strings"

	"qanat/api"
)

func isQuote(x byte) bool { return x == '\'' || x == '"' }

// literal reads a literal and returns its value.
func (r *reader) literal() string {
	end, closed := closingQuote(r.src, r.at)
	if !closed {
		panic(fault{codeOpen, r.line})
	}
	quote, content := r.src[r.at:r.at+1], r.src[r.at+1:end]
	if !isPlainText(content) {
		panic(fault{codeByte, r.line})
	}
	r.at = end + 1
	value := ""
	if base := baseAt(r.src, r.at); base > 0 {
		bytes, is := denoted(content, base)
		if !is {
			panic(fault{codeDigits, r.line})
		}
		r.at++
		value = bytes
	} else {
		value = strings.ReplaceAll(content, quote+quote, quote)
	}
	if len(value) > api.MaxString {
		panic(fault{codeLong, r.line})
	}
	return value
}

// closingQuote returns the offset of the quote that closes the literal that begins at an offset; false if there is none on its line.
func closingQuote(src string, at int) (int, bool) {
	quote := src[at]
	for k := at + 1; k < len(src) && src[k] != '\n'; k++ {
		if src[k] != quote {
			continue
		}
		if k+1 == len(src) || src[k+1] != quote {
			return k, true
		}
		k++
	}
	return 0, false
}

// baseAt returns the base of the digits of a literal, which the letter behind its closing quote tells; 0 if no letter belongs to it.
func baseAt(src string, at int) int {
	if at == len(src) || at+1 < len(src) && isSymbolByte(src[at+1]) {
		return 0
	}
	switch src[at] {
	case 'X', 'x':
		return 16
	case 'B', 'b':
		return 2
	}
	return 0
}

// denoted returns the bytes that digits of a base denote; false if they do not denote bytes of a string of the language.
func denoted(digits string, base int) (string, bool) {
	size := 2
	if base == 2 {
		size = 8
	}
	if len(digits)%size != 0 {
		return "", false
	}
	list := make([]byte, 0, len(digits)/size)
	for k := 0; k < len(digits); k += size {
		x, err := strconv.ParseUint(digits[k:k+size], base, 8)
		if err != nil || !isPlain(byte(x)) {
			return "", false
		}
		list = append(list, byte(x))
	}
	return string(list), true
}

// quoted returns a literal for s, which is a valid one if s is a string of the language.
func quoted(s string) string {
	quote := "'"
	if strings.Count(s, "'") > strings.Count(s, `"`) {
		quote = `"`
	}
	return quote + strings.ReplaceAll(s, quote, quote+quote) + quote
}

// Literal returns the shortest literal, without a letter, for a string.
func Literal(s string) (string, api.Errno) {
	if len(s) > api.MaxString || !isPlainText(s) {
		return "", api.ErrArg
	}
	return quoted(s), api.OK
}

// Value returns the value of a literal; or a code, if there is an error in it.
func Value(lit string) (string, int, api.Errno) {
	if lit == "" || !isQuote(lit[0]) {
		return "", 0, api.ErrForm
	}
	r := reader{src: lit}
	value := ""
	stop := caught(func() { value = r.literal() })
	switch {
	case stop.code != 0:
		return "", stop.code, api.ErrCode
	case r.at < len(lit):
		return "", 0, api.ErrForm
	}
	return value, 0, api.OK
}
