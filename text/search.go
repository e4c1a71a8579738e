package text

import (
	"iter"
	"strings"

	"qanat/api"
)

// Pos returns the position of the first occurrence of part in s, from position start on; 0 if there is none.
func Pos(part, s string, start int) (int, api.Errno) {
	if !areValid(part, s) || !areAtLeast(1, start) {
		return 0, api.ErrArg
	}
	return found(part, s, upward(start-1, len(s)-len(part))) + 1, api.OK
}

// LastPos returns the position of the last occurrence of part in the first start bytes of s, or in s if start is Missing; 0 if there is none.
func LastPos(part, s string, start int) (int, api.Errno) {
	if !areValid(part, s) || !isMissingOr(1, start) {
		return 0, api.ErrArg
	}
	if start != api.Missing {
		s = before(s, start)
	}
	return found(part, s, downward(len(s)-len(part), 0)) + 1, api.OK
}

// found returns the first of the offsets at which part, which is not empty, occurs in s; -1 if there is none.
func found(part, s string, offsets iter.Seq[int]) int {
	result := -1
	if part == "" {
		return result
	}
search:
	for at := range offsets {
		for k := range len(part) {
			if s[at+k] != part[k] {
				continue search
			}
		}
		result = at
		break search
	}
	return result
}

// upward yields the integers from first to last, in increasing order.
func upward(first, last int) iter.Seq[int] {
	return func(yield func(int) bool) {
		for n := first; n <= last && yield(n); n++ {
		}
	}
}

// downward yields the integers from first to last, in decreasing order.
func downward(first, last int) iter.Seq[int] {
	return func(yield func(int) bool) {
		for n := first; n >= last && yield(n); n-- {
		}
	}
}

// occurrences yields the offsets at which part occurs in s, each after the end of the occurrence before.
func occurrences(part, s string) iter.Seq[int] {
	return func(yield func(int) bool) {
		last := len(s) - len(part)
		at := found(part, s, upward(0, last))
		for at >= 0 && yield(at) {
			at = found(part, s, upward(at+len(part), last))
		}
	}
}

// Count returns the number of occurrences of part in s, which do not overlap.
func Count(part, s string) (int, api.Errno) {
	if !areValid(part, s) {
		return 0, api.ErrArg
	}
	n := 0
	for range occurrences(part, s) {
		n++
	}
	return n, api.OK
}

// Change returns s in which each occurrence of old that Count counts is replaced.
func Change(old, s, with string) (string, api.Errno) {
	if !areValid(old, s, with) {
		return "", api.ErrArg
	}
	var changed strings.Builder
	done := 0
	for at := range occurrences(old, s) {
		changed.WriteString(s[done:at] + with)
		done = at + len(old)
	}
	changed.WriteString(s[done:])
	if isTooLong(changed.Len()) {
		return "", api.ErrLimit
	}
	return changed.String(), api.OK
}

// Compare returns the position of the first difference of a and b, the shorter of which is padded; 0 if there is none.
func Compare(a, b string, pad byte) (int, api.Errno) {
	if !areValid(a, b) || !arePads(pad) {
		return 0, api.ErrArg
	}
	for k, differ := range pairs(a, b, pad, func(x, y byte) bool { return x != y }) {
		if differ {
			return k + 1, api.OK
		}
	}
	return 0, api.OK
}

// pairs yields each offset of the longer one of a and b with what both makes of their bytes there; pad stands for each byte that the shorter one lacks.
func pairs[T any](a, b string, pad byte, both func(x, y byte) T) iter.Seq2[int, T] {
	return func(yield func(int, T) bool) {
		length := max(len(a), len(b))
		a, b := fitted(a, length, pad), fitted(b, length, pad)
		for k := range length {
			if !yield(k, both(a[k], b[k])) {
				return
			}
		}
	}
}

// Abbrev reports whether s begins with part, which has at least length bytes.
func Abbrev(s, part string, length int) (bool, api.Errno) {
	if !areValid(s, part) || !areAtLeast(0, length) {
		return false, api.ErrArg
	}
	return len(part) >= length && strings.HasPrefix(s, part), api.OK
}

// Verify returns the position of the first byte of s, from position start on, that is in set (match) or is not (not match); 0 if there is none.
func Verify(s, set string, match bool, start int) (int, api.Errno) {
	if !areValid(s, set) || !areAtLeast(1, start) {
		return 0, api.ErrArg
	}
	members := byteSet(set)
	for k := start - 1; k < len(s); k++ {
		if members[s[k]] == match {
			return k + 1, api.OK
		}
	}
	return 0, api.OK
}

func byteSet(list string) map[byte]bool {
	set := map[byte]bool{}
	for k := range len(list) {
		set[list[k]] = true
	}
	return set
}
