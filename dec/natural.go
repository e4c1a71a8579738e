package dec

import (
	"bytes"
	"iter"
	"slices"
)

// A natural is a slice of digits (0 to 9), the most significant one first, without leading zeros; zero is the digit 0 alone.

// reversed returns the elements of a list in the opposite order.
func reversed[T any](list []T) []T {
	turned := make([]T, 0, len(list))
	for i := len(list) - 1; i >= 0; i-- {
		turned = append(turned, list[i])
	}
	return turned
}

// filled returns a list that repeats one element.
func filled[T any](element T, count int) []T {
	list := make([]T, 0, count)
	for range count {
		list = append(list, element)
	}
	return list
}

// joined returns the concatenation of digits as new memory.
func joined(parts ...[]byte) []byte {
	return slices.Concat(parts...)
}

// trimmed returns digits without their leading zeros.
func trimmed(digits []byte) []byte {
	for len(digits) > 1 && digits[0] == 0 {
		digits = digits[1:]
	}
	return digits
}

// digitAt returns the digit that stands so many places before the last one, 0 beyond the first.
func digitAt(digits []byte, place int) int {
	if place >= len(digits) {
		return 0
	}
	return int(digits[len(digits)-1-place])
}

// sums yields the columns of x + sign * y, beginning with the last place.
func sums(x, y []byte, sign int) iter.Seq[int] {
	return func(yield func(int) bool) {
		for place := range max(len(x), len(y)) + 1 {
			if !yield(digitAt(x, place) + sign*digitAt(y, place)) {
				return
			}
		}
	}
}

// products yields the columns of x * y, beginning with the last place.
func products(x, y []byte) iter.Seq[int] {
	last := len(x) + len(y) - 2
	return func(yield func(int) bool) {
		for place := range len(x) + len(y) {
			// Only pairs of digits whose indices have this sum contribute to the column.
			indices := last - place
			column := 0
			for i := max(0, indices-len(y)+1); i <= min(indices, len(x)-1); i++ {
				column += int(x[i]) * int(y[indices-i])
			}
			if !yield(column) {
				return
			}
		}
	}
}

// carrier returns a function that turns one column after the other into its digit and keeps the carry, which may be negative, for the next one.
func carrier() func(column int) byte {
	carry := 0
	return func(column int) byte {
		total := column + carry
		digit := total % 10
		if digit < 0 {
			digit += 10
		}
		carry = (total - digit) / 10
		return byte(digit)
	}
}

// carried returns the natural whose columns are given; the last carry must be 0.
func carried(columns iter.Seq[int]) []byte {
	settle := carrier()
	var digits []byte
	for column := range columns {
		digit := settle(column)
		digits = append(digits, digit)
	}
	return trimmed(reversed(digits))
}

// lower subtracts y, which is not greater, from x in place.
func lower(x, y []byte) {
	settle := carrier()
	for place := range len(x) {
		x[len(x)-1-place] = settle(digitAt(x, place) - digitAt(y, place))
	}
}

// order returns the sign of x - y.
func order(x, y []byte) int {
	if len(x) != len(y) {
		if len(x) < len(y) {
			return -1
		}
		return 1
	}
	return bytes.Compare(x, y)
}

// divided returns the quotient and the remainder of x divided by y, which is not zero; x may have leading zeros.
func divided(x, y []byte) (quotient, rest []byte) {
	rest = []byte{0}
nextDigit:
	for _, digit := range x {
		rest = trimmed(append(rest, digit))
		for count := byte(0); ; count++ {
			if order(rest, y) < 0 {
				quotient = append(quotient, count)
				continue nextDigit
			}
			lower(rest, y)
			rest = trimmed(rest)
		}
	}
	return trimmed(quotient), rest
}

// allDigits reports whether a text has bytes from '0' to '9' only.
func allDigits(text string) bool {
	for i := range len(text) {
		if text[i] < '0' || text[i] > '9' {
			return false
		}
	}
	return true
}

// isNatural reports whether a text is a natural in decimal digits.
func isNatural(text string) bool {
	return text == "0" || text != "" && text[0] != '0' && allDigits(text)
}

// digitsOf returns the digits of a text that has only digits.
func digitsOf(text string) []byte {
	digits := make([]byte, 0, len(text))
	for i := range len(text) {
		digits = append(digits, text[i]-'0')
	}
	return digits
}

// textOf returns digits as a text.
func textOf(digits []byte) string {
	text := make([]byte, 0, len(digits))
	for _, digit := range digits {
		text = append(text, digit+'0')
	}
	return string(text)
}
