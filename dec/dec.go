// Package dec implements decimal arithmetic of arbitrary precision: every result is exact and rounded once.
package dec

import "qanat/api"

// maxIntDigits is the number of digits of the largest absolute value that Int returns.
const maxIntDigits = 9

// operation returns the exact result for two rounded operands, where the number of digits matters only to quotients.
type operation func(a, b value, digits int) (value, api.Errno)

// isValid reports whether a number is valid.
func isValid(n api.Num) bool {
	if n.Digits == "0" {
		return n == api.Num{Digits: "0"}
	}
	if len(n.Digits) > api.MaxString || !isNatural(n.Digits) {
		return false
	}
	after := len(n.Digits) - 1
	return n.Exp >= -api.MaxExp-after && n.Exp <= api.MaxExp-after
}

// areValid reports whether a number of digits and numbers are valid.
func areValid(digits int, numbers ...api.Num) bool {
	for _, n := range numbers {
		if !isValid(n) {
			return false
		}
	}
	return digits >= 1 && digits <= api.MaxDigits
}

// areSettings reports whether settings are valid.
func areSettings(s api.Settings) bool {
	return s.Digits >= 1 && s.Digits <= api.MaxDigits && s.Fuzz >= 0 && s.Fuzz < s.Digits && (s.Form == 0 || s.Form == 1)
}

// combine rounds both operands, applies an operation to them, and rounds its result. An operand that is out of range is told last, since ErrZero and ErrWhole precede ErrRange.
func combine(a, b api.Num, digits int, apply operation) (api.Num, api.Errno) {
	if !areValid(digits, a, b) {
		return api.Num{}, api.ErrArg
	}
	x, y := valueOf(a).rounded(digits), valueOf(b).rounded(digits)
	exact, e := apply(x, y, digits)
	if e != api.OK {
		return api.Num{}, e
	}
	if !x.inRange() || !y.inRange() {
		return api.Num{}, api.ErrRange
	}
	return exact.settled(digits)
}

// Check returns OK if a number is valid.
func Check(n api.Num) api.Errno {
	if !isValid(n) {
		return api.ErrArg
	}
	return api.OK
}

// Round rounds a number to at most the given number of digits.
func Round(n api.Num, digits int) (api.Num, api.Errno) {
	if !areValid(digits, n) {
		return api.Num{}, api.ErrArg
	}
	return valueOf(n).settled(digits)
}

// CheckRound returns OK if m is n rounded to digits.
func CheckRound(n, m api.Num, digits int) api.Errno {
	if !areValid(digits, n, m) {
		return api.ErrArg
	}
	rounded, e := Round(n, digits)
	if e != api.OK || rounded != m {
		return api.ErrProof
	}
	return api.OK
}

// Add returns the rounded sum.
func Add(a, b api.Num, digits int) (api.Num, api.Errno) {
	return combine(a, b, digits, value.plus)
}

// Sub returns the rounded difference.
func Sub(a, b api.Num, digits int) (api.Num, api.Errno) {
	return combine(a, b, digits, value.minus)
}

// Mul returns the rounded product.
func Mul(a, b api.Num, digits int) (api.Num, api.Errno) {
	return combine(a, b, digits, value.times)
}

// Div returns the rounded quotient and its proof.
func Div(a, b api.Num, digits int) (api.Num, api.DivProof, api.Errno) {
	var proof api.DivProof
	n, e := combine(a, b, digits, func(x, y value, digits int) (value, api.Errno) {
		quotient, p, e := x.over(y, digits)
		proof = p
		return quotient, e
	})
	if e != api.OK {
		return api.Num{}, api.DivProof{}, e
	}
	return n, proof, api.OK
}

// CheckDiv returns OK if p proves that n is the quotient of a and b.
func CheckDiv(a, b api.Num, digits int, n api.Num, p api.DivProof) api.Errno {
	if !areValid(digits, a, b, n) {
		return api.ErrArg
	}
	x, y := valueOf(a).rounded(digits), valueOf(b).rounded(digits)
	switch {
	case y.isZero():
		return api.ErrZero
	case !x.inRange() || !y.inRange():
		return api.ErrRange
	}
	quotient, shown := x.proven(y, digits, p)
	if !shown {
		// A wrong proof does not tell whether the quotient is out of range, which comes before ErrProof.
		quotient, _, _ = x.over(y, digits)
	}
	result, e := quotient.settled(digits)
	switch {
	case e != api.OK:
		return e
	case !shown || result != n:
		return api.ErrProof
	}
	return api.OK
}

// IDiv returns the integer quotient.
func IDiv(a, b api.Num, digits int) (api.Num, api.Errno) {
	return combine(a, b, digits, value.whole)
}

// Rem returns the remainder.
func Rem(a, b api.Num, digits int) (api.Num, api.Errno) {
	return combine(a, b, digits, value.rest)
}

// Pow returns the rounded power of a number.
func Pow(a api.Num, n, digits int) (api.Num, api.Errno) {
	if !areValid(digits, a) || n < -api.MaxPower || n > api.MaxPower {
		return api.Num{}, api.ErrArg
	}
	base := valueOf(a).rounded(digits)
	switch {
	case base.isZero() && n < 0:
		return api.Num{}, api.ErrZero
	case !base.inRange():
		return api.Num{}, api.ErrRange
	case n >= 0:
		return base.power(n).settled(digits)
	}
	one := value{digits: []byte{1}}
	inverse, _, _ := one.over(base.power(-n), digits)
	return inverse.settled(digits)
}

// Compare returns the sign of the difference of two numbers.
func Compare(a, b api.Num, s api.Settings) (int, api.Errno) {
	if !areSettings(s) || !isValid(a) || !isValid(b) {
		return 0, api.ErrArg
	}
	digits := s.Digits - s.Fuzz
	x, y := valueOf(a).rounded(digits), valueOf(b).rounded(digits)
	if !x.inRange() || !y.inRange() {
		return 0, api.ErrRange
	}
	difference, _ := x.minus(y, digits)
	switch {
	case difference.isZero():
		return 0, api.OK
	case difference.neg:
		return -1, api.OK
	}
	return 1, api.OK
}

// Int returns an integral number as an int.
func Int(n api.Num, digits int) (int, api.Errno) {
	if !areValid(digits, n) {
		return 0, api.ErrArg
	}
	whole := valueOf(n).stripped()
	length := len(whole.digits) + whole.exp
	switch {
	case whole.exp < 0 || length > digits:
		return 0, api.ErrWhole
	case length > maxIntDigits:
		return 0, api.ErrRange
	}
	result := 0
	for _, digit := range joined(whole.digits, filled(byte(0), whole.exp)) {
		result = result*10 + int(digit)
	}
	if whole.neg {
		result = -result
	}
	return result, api.OK
}
