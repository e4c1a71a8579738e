package text

import (
	"strings"

	"qanat/api"
)

// numerals are the digits of a base up to 16, each at the offset that is its value.
const numerals = "0123456789ABCDEF"

// C2X returns the bytes of s as hexadecimal digits.
func C2X(s string) (string, api.Errno) {
	if !areValid(s) {
		return "", api.ErrArg
	}
	if isTooLong(times(2, len(s))) {
		return "", api.ErrLimit
	}
	return written(split([]byte(s), 2, 16)), api.OK
}

// X2C returns the bytes of hexadecimal digits.
func X2C(s string) (string, api.Errno) {
	values, is := digitValues(s, 2, 16)
	if !is {
		return "", api.ErrArg
	}
	return clean(string(merged(values, 2, 16)))
}

// X2B returns hexadecimal digits as binary digits.
func X2B(s string) (string, api.Errno) {
	values, is := digitValues(s, 2, 16)
	if !is {
		return "", api.ErrArg
	}
	if isTooLong(times(4, len(values))) {
		return "", api.ErrLimit
	}
	return written(split(values, 4, 2)), api.OK
}

// B2X returns binary digits as hexadecimal digits.
func B2X(s string) (string, api.Errno) {
	values, is := digitValues(s, 4, 2)
	if !is {
		return "", api.ErrArg
	}
	return written(merged(values, 4, 2)), api.OK
}

// digitValues returns the values of the digits of s, which consists of groups; false if s is not such a string. The number of digits of each group but the first is a multiple of size.
func digitValues(s string, size, base int) ([]byte, bool) {
	if !areValid(s) || strings.Trim(s, string(blank)) != s {
		return nil, false
	}
	var values []byte
	for w := range words(s) {
		if w.from > 0 && (w.to-w.from)%size != 0 {
			return nil, false
		}
		for k := w.from; k < w.to; k++ {
			value := strings.IndexByte(numerals, s[k])
			if 'a' <= s[k] && s[k] <= 'f' {
				value = int(s[k]-'a') + 10
			}
			if value < 0 || value >= base {
				return nil, false
			}
			values = append(values, byte(value))
		}
	}
	return values, true
}

// split returns each of the values as size digits of the base.
func split(values []byte, size int, base byte) []byte {
	digits := make([]byte, size*len(values))
	for k, value := range values {
		for at := size - 1; at >= 0; at-- {
			digits[k*size+at] = value % base
			value /= base
		}
	}
	return digits
}

// merged returns the values of groups of size digits of the base, the first of which may be incomplete.
func merged(digits []byte, size int, base byte) []byte {
	values := make([]byte, (len(digits)+size-1)/size)
	lacking := size*len(values) - len(digits)
	for k, digit := range digits {
		at := (k + lacking) / size
		values[at] = values[at]*base + digit
	}
	return values
}

// written returns values as digits.
func written(values []byte) string {
	return replaced(string(values), func(value byte) byte { return numerals[value] })
}
