package text

import "qanat/api"

// BitAnd returns the bitwise conjunction of two strings.
func BitAnd(a, b string, pad int) (string, api.Errno) {
	return combined(a, b, pad, func(x, y byte) byte { return x & y })
}

// BitOr returns the bitwise disjunction of two strings.
func BitOr(a, b string, pad int) (string, api.Errno) {
	return combined(a, b, pad, func(x, y byte) byte { return x | y })
}

// BitXor returns the bitwise exclusive disjunction of two strings.
func BitXor(a, b string, pad int) (string, api.Errno) {
	return combined(a, b, pad, func(x, y byte) byte { return x ^ y })
}

// combined returns what operate makes of the bytes of a and b at equal positions. What one of them has more than the other is combined with pad, or left as it is if pad is Missing.
func combined(a, b string, pad int, operate func(x, y byte) byte) (string, api.Errno) {
	if !areValid(a, b) || !isMissingOr(leastByte, pad) || pad > greatestByte {
		return "", api.ErrArg
	}
	rest := ""
	if pad == api.Missing {
		common := min(len(a), len(b))
		rest = after(a, common) + after(b, common) // one of them is empty
		a, b = before(a, common), before(b, common)
	}
	var list []byte
	for _, x := range pairs(a, b, byte(pad), operate) { // no pad is needed where it is Missing
		list = append(list, x)
	}
	return clean(string(list) + rest)
}

// clean returns s, or ErrRange if it has a byte that a valid string has not.
func clean(s string) (string, api.Errno) {
	if !isClean(s) {
		return "", api.ErrRange
	}
	return s, api.OK
}
