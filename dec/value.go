package dec

import "qanat/api"

// value is a number of any size: the natural digits times 10 to the power exp, negated if neg; zero has exp 0 and is not negated. Unlike that of an api.Num its exponent has no bounds: an exact result may leave the range and come back into it when it is rounded or inverted.
type value struct {
	neg    bool
	digits []byte
	exp    int
}

// newValue returns the value of digits, which may have leading zeros.
func newValue(neg bool, digits []byte, exp int) value {
	digits = trimmed(digits)
	if digits[0] == 0 {
		return value{digits: []byte{0}}
	}
	return value{neg, digits, exp}
}

// valueOf returns the value of a valid number.
func valueOf(n api.Num) value {
	return value{n.Neg, digitsOf(n.Digits), n.Exp}
}

// num returns a value that is in range as a number.
func (a value) num() api.Num {
	return api.Num{Neg: a.neg, Digits: textOf(a.digits), Exp: a.exp}
}

func (a value) isZero() bool { return a.digits[0] == 0 }

// inRange reports whether a value is zero or has a valid adjusted exponent.
func (a value) inRange() bool {
	adjusted := a.exp + len(a.digits) - 1
	return adjusted >= -api.MaxExp && adjusted <= api.MaxExp
}

func (a value) negated() value {
	return newValue(!a.neg, a.digits, a.exp)
}

// rounded returns the value rounded to so many digits; the result may be out of range.
func (a value) rounded(digits int) value {
	cut := len(a.digits) - digits
	if cut <= 0 {
		return a
	}
	kept := a.digits[:digits]
	if a.digits[digits] >= 5 {
		kept = carried(sums(kept, []byte{1}, 1))
	}
	if len(kept) > digits {
		kept = kept[:digits]
		cut++
	}
	return value{a.neg, kept, a.exp + cut}
}

// settled returns the value rounded to so many digits as a number, or ErrRange.
func (a value) settled(digits int) (api.Num, api.Errno) {
	result := a.rounded(digits)
	if !result.inRange() {
		return api.Num{}, api.ErrRange
	}
	return result.num(), api.OK
}

// stripped returns the value without the trailing zeros of its digits.
func (a value) stripped() value {
	if a.isZero() {
		return a
	}
	end := len(a.digits)
	for a.digits[end-1] == 0 {
		end--
	}
	return value{a.neg, a.digits[:end], a.exp + len(a.digits) - end}
}

// aligned returns the digits of both values for their smaller exponent, and this exponent.
func aligned(a, b value) (x, y []byte, exp int) {
	exp = min(a.exp, b.exp)
	x = joined(a.digits, filled(byte(0), a.exp-exp))
	y = joined(b.digits, filled(byte(0), b.exp-exp))
	return x, y, exp
}

func (a value) plus(b value, _ int) (value, api.Errno) {
	switch {
	case a.isZero():
		return b, api.OK
	case b.isZero():
		return a, api.OK
	}
	x, y, exp := aligned(a, b)
	switch {
	case a.neg == b.neg:
		return newValue(a.neg, carried(sums(x, y, 1)), exp), api.OK
	case order(x, y) < 0:
		return newValue(b.neg, carried(sums(y, x, -1)), exp), api.OK
	}
	return newValue(a.neg, carried(sums(x, y, -1)), exp), api.OK
}

func (a value) minus(b value, digits int) (value, api.Errno) {
	return a.plus(b.negated(), digits)
}

func (a value) times(b value, _ int) (value, api.Errno) {
	return newValue(a.neg != b.neg, carried(products(a.digits, b.digits)), a.exp+b.exp), api.OK
}

// scaled returns the digits of a followed by so many zeros that their quotient by those of b has more than digits digits, and the number of these zeros.
func (a value) scaled(b value, digits int) ([]byte, int) {
	zeros := max(0, digits+len(b.digits)+1-len(a.digits))
	return joined(a.digits, filled(byte(0), zeros)), zeros
}

// quotient returns a divided by b, rounded and stripped, where quot is the quotient of the digits of a scaled by so many zeros.
func (a value) quotient(b value, quot []byte, zeros, digits int) value {
	exact := newValue(a.neg != b.neg, quot, a.exp-b.exp-zeros)
	return exact.rounded(digits).stripped()
}

// over returns a divided by b, rounded and stripped, and its proof.
func (a value) over(b value, digits int) (value, api.DivProof, api.Errno) {
	if b.isZero() {
		return value{}, api.DivProof{}, api.ErrZero
	}
	dividend, zeros := a.scaled(b, digits)
	quot, rest := divided(dividend, b.digits)
	proof := api.DivProof{Quot: textOf(quot), Rest: textOf(rest)}
	return a.quotient(b, quot, zeros, digits), proof, api.OK
}

// proven returns the quotient that a proof shows, and whether it shows one; b is not zero.
func (a value) proven(b value, digits int, p api.DivProof) (value, bool) {
	dividend, zeros := a.scaled(b, digits)
	if !isNatural(p.Quot) || !isNatural(p.Rest) || len(p.Quot) > len(dividend) || len(p.Rest) > len(b.digits) {
		return value{}, false
	}
	quot, rest := digitsOf(p.Quot), digitsOf(p.Rest)
	product := carried(products(quot, b.digits))
	total := carried(sums(product, rest, 1))
	if order(rest, b.digits) >= 0 || order(total, trimmed(dividend)) != 0 {
		return value{}, false
	}
	return a.quotient(b, quot, zeros, digits), true
}

// parts returns the truncated quotient and the remainder of a divided by b.
func (a value) parts(b value, digits int) (quotient, rest value, e api.Errno) {
	if b.isZero() {
		return value{}, value{}, api.ErrZero
	}
	x, y, exp := aligned(a, b)
	quot, left := divided(x, y)
	if len(quot) > digits {
		return value{}, value{}, api.ErrWhole
	}
	return newValue(a.neg != b.neg, quot, 0), newValue(a.neg, left, exp), api.OK
}

func (a value) whole(b value, digits int) (value, api.Errno) {
	quotient, _, e := a.parts(b, digits)
	return quotient, e
}

func (a value) rest(b value, digits int) (value, api.Errno) {
	_, rest, e := a.parts(b, digits)
	return rest, e
}

// power returns the exact power of a value; the exponent is at least 0.
func (a value) power(exponent int) value {
	digits := []byte{1}
	for range exponent {
		digits = carried(products(digits, a.digits))
	}
	return newValue(a.neg && exponent%2 == 1, digits, a.exp*exponent)
}
