package dec

import (
	"strings"

	"qanat/api"
)

// The codes of the language that operators encounter.
const (
	codeWhole  = 26 // a whole number is needed
	codeBool   = 34 // neither "0" nor "1"
	codeNumber = 41 // not a number
	codeRange  = 42 // division by zero, or out of range
)

// number is an operand of an operator.
type number api.Num

// operator evaluates an operator of arithmetic.
type operator func(a, b number, digits int) (api.Num, api.Errno)

func (a number) plus(b number, digits int) (api.Num, api.Errno) {
	return Add(api.Num(a), api.Num(b), digits)
}

func (a number) minus(b number, digits int) (api.Num, api.Errno) {
	return Sub(api.Num(a), api.Num(b), digits)
}

func (a number) times(b number, digits int) (api.Num, api.Errno) {
	return Mul(api.Num(a), api.Num(b), digits)
}

func (a number) over(b number, digits int) (api.Num, api.Errno) {
	n, _, e := Div(api.Num(a), api.Num(b), digits)
	return n, e
}

func (a number) whole(b number, digits int) (api.Num, api.Errno) {
	return IDiv(api.Num(a), api.Num(b), digits)
}

func (a number) rest(b number, digits int) (api.Num, api.Errno) {
	return Rem(api.Num(a), api.Num(b), digits)
}

// raised takes its exponent as it is: rounding it first could make a whole number of one that is none.
func (a number) raised(b number, digits int) (api.Num, api.Errno) {
	n, e := Int(api.Num(b), digits)
	switch {
	case e != api.OK:
		return api.Num{}, e
	case n < -api.MaxPower || n > api.MaxPower:
		return api.Num{}, api.ErrRange
	}
	return Pow(api.Num(a), n, digits)
}

// operators returns the operators of arithmetic.
func operators() map[string]operator {
	return map[string]operator{
		"+":  number.plus,
		"-":  number.minus,
		"*":  number.times,
		"/":  number.over,
		"%":  number.whole,
		"//": number.rest,
		"**": number.raised,
	}
}

// sign is the sign of the difference of two operands.
type sign int

func (s sign) same() bool     { return s == 0 }
func (s sign) other() bool    { return s != 0 }
func (s sign) above() bool    { return s > 0 }
func (s sign) below() bool    { return s < 0 }
func (s sign) notBelow() bool { return s >= 0 }
func (s sign) notAbove() bool { return s <= 0 }

// comparisons returns the operators of comparison.
func comparisons() map[string]func(sign) bool {
	return map[string]func(sign) bool{
		"=":   sign.same,
		"\\=": sign.other,
		">":   sign.above,
		"<":   sign.below,
		">=":  sign.notBelow,
		"<=":  sign.notAbove,
	}
}

// codeOf returns the code of the language for an error of an operator.
func codeOf(e api.Errno) int {
	if e == api.ErrWhole {
		return codeWhole
	}
	return codeRange
}

// boolean returns a truth value of the language.
func boolean(is bool) string {
	if is {
		return "1"
	}
	return "0"
}

// calculate applies an operator to two strings; it returns the result or a code.
func calculate(apply operator, a, b string, s api.Settings) (string, int) {
	x, left := Read(a)
	y, right := Read(b)
	if left != api.OK || right != api.OK {
		return "", codeNumber
	}
	n, e := apply(number(x), number(y), s.Digits)
	if e != api.OK {
		return "", codeOf(e)
	}
	text, _ := Tell(n, s)
	return text, 0
}

// compareTexts compares two strings without the blanks at their ends, the shorter one padded with blanks.
func compareTexts(a, b string) sign {
	a, b = strings.Trim(a, " "), strings.Trim(b, " ")
	length := max(len(a), len(b))
	a += strings.Repeat(" ", length-len(a))
	b += strings.Repeat(" ", length-len(b))
	return sign(strings.Compare(a, b))
}

// compareOperands compares two numbers, or two strings if one of them is not a number; it returns the sign or a code.
func compareOperands(a, b string, s api.Settings) (sign, int) {
	x, left := Read(a)
	y, right := Read(b)
	if left != api.OK || right != api.OK {
		return compareTexts(a, b), 0
	}
	order, e := Compare(x, y, s)
	if e != api.OK {
		return 0, codeOf(e)
	}
	return sign(order), 0
}

// negate returns the negation of a truth value, or a code.
func negate(a string) (string, int) {
	if a != "0" && a != "1" {
		return "", codeBool
	}
	return boolean(a == "0"), 0
}

// Op evaluates a binary operator of the language; it returns the result or a code.
func Op(op, a, b string, s api.Settings) (string, int, api.Errno) {
	if !areSettings(s) {
		return "", 0, api.ErrArg
	}
	if apply, is := operators()[op]; is {
		text, code := calculate(apply, a, b, s)
		return text, code, api.OK
	}
	holds, is := comparisons()[op]
	if !is {
		return "", 0, api.ErrArg
	}
	order, code := compareOperands(a, b, s)
	if code != 0 {
		return "", code, api.OK
	}
	return boolean(holds(order)), 0, api.OK
}

// Front evaluates a prefix operator of the language; it returns the result or a code.
func Front(op, a string, s api.Settings) (string, int, api.Errno) {
	if !areSettings(s) {
		return "", 0, api.ErrArg
	}
	text, code := "", 0
	switch op {
	case "+":
		text, code = calculate(number.plus, "0", a, s)
	case "-":
		text, code = calculate(number.minus, "0", a, s)
	case "\\":
		text, code = negate(a)
	default:
		return "", 0, api.ErrArg
	}
	return text, code, api.OK
}
