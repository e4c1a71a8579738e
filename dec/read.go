package dec

import (
	"strings"

	"qanat/api"
)

// farExponent is beyond every exponent that the digits after a period, of which there are at most MaxString, can bring back into range.
const farExponent = 10 * api.MaxString

const decimalDigits = "0123456789"

// reader reads a number string from left to right; it panics at a byte that does not belong there.
type reader struct {
	text string
	at   int
}

// has reports whether the next byte is one of a set.
func (r *reader) has(set string) bool {
	return r.at < len(r.text) && strings.IndexByte(set, r.text[r.at]) >= 0
}

// take reads the bytes up to the first one that is not in a set.
func (r *reader) take(set string) string {
	from := r.at
	for r.has(set) {
		r.at++
	}
	return r.text[from:r.at]
}

// need panics unless something was read.
func (r *reader) need(read string) {
	if read == "" {
		panic(api.ErrForm)
	}
}

// sign reads an optional sign and tells whether it is a minus.
func (r *reader) sign() bool {
	minus := r.has("-")
	if r.has("+-") {
		r.at++
	}
	return minus
}

// mantissa reads the digits with their period; it returns all of them, and how many stand after the period.
func (r *reader) mantissa() (digits string, after int) {
	digits = r.take(decimalDigits)
	if r.has(".") {
		r.at++
		fraction := r.take(decimalDigits)
		digits += fraction
		after = len(fraction)
	}
	r.need(digits)
	return digits, after
}

// exponent reads the optional exponent; one whose absolute value is too large for any number stays above farExponent.
func (r *reader) exponent() int {
	if !r.has("Ee") {
		return 0
	}
	r.at++
	minus := r.sign()
	digits := r.take(decimalDigits)
	r.need(digits)
	exp := 0
	for i := range len(digits) {
		if exp <= farExponent {
			exp = exp*10 + int(digits[i]-'0')
		}
	}
	if minus {
		return -exp
	}
	return exp
}

// number reads the whole string.
func (r *reader) number() api.Num {
	r.take(" ")
	minus := r.sign()
	r.take(" ")
	digits, after := r.mantissa()
	exp := r.exponent()
	r.take(" ")
	if r.at < len(r.text) {
		panic(api.ErrForm)
	}
	digits = strings.TrimLeft(digits, "0")
	if digits == "" {
		return api.Num{Digits: "0"}
	}
	return api.Num{Neg: minus, Digits: digits, Exp: exp - after}
}

// Read returns the number that a string denotes.
func Read(s string) (n api.Num, e api.Errno) {
	defer func() {
		if recover() != nil {
			n, e = api.Num{}, api.ErrForm
		}
	}()
	if len(s) > api.MaxString {
		return api.Num{}, api.ErrForm
	}
	r := reader{text: s}
	n = r.number()
	if !isValid(n) {
		return api.Num{}, api.ErrForm
	}
	return n, api.OK
}
