package text

import "qanat/api"

// The bytes of valid strings; a pad is one of them.
const (
	leastByte    = 32
	greatestByte = 126
	blank        = ' '
)

// Valid reports whether s is a valid string.
func Valid(s string) bool {
	return len(s) <= api.MaxString && isClean(s)
}

// isClean reports whether s has only bytes of valid strings.
func isClean(s string) bool {
	for k := range len(s) {
		if !arePads(s[k]) {
			return false
		}
	}
	return true
}

func areValid(list ...string) bool {
	for _, s := range list {
		if !Valid(s) {
			return false
		}
	}
	return true
}

func arePads(list ...byte) bool {
	for _, x := range list {
		if x < leastByte || x > greatestByte {
			return false
		}
	}
	return true
}

func areAtLeast(least int, list ...int) bool {
	for _, n := range list {
		if n < least {
			return false
		}
	}
	return true
}

// isMissingOr reports whether n is Missing or at least least.
func isMissingOr(least, n int) bool {
	return n == api.Missing || areAtLeast(least, n)
}

// isTooLong reports whether a string that consists of parts of these lengths has more than MaxString bytes. It subtracts, because the sum of lengths that a caller may give can be greater than any int.
func isTooLong(lengths ...int) bool {
	room := api.MaxString
	for _, n := range lengths {
		if n > room {
			return true
		}
		room -= n
	}
	return false
}

// times returns the length of n strings of the same length, or some number above MaxString if it is above that (the product may be greater than any int).
func times(n, length int) int {
	if length > 0 && n > api.MaxString/length {
		return api.MaxString + 1
	}
	return n * length
}
