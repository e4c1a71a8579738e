package text

import (
	"iter"
	"slices"
	"strings"

	"qanat/api"
)

// span is a part of a string: from its byte at the offset from to the one before the offset to.
type span struct{ from, to int }

// words yields the words of s in their order.
func words(s string) iter.Seq[span] {
	return func(yield func(span) bool) {
		from := 0
		for k := range len(s) + 1 {
			if k < len(s) && s[k] != blank {
				continue
			}
			if from < k && !yield(span{from, k}) {
				return
			}
			from = k + 1
		}
	}
}

// nthWord returns the n-th word of s; false if there is none.
func nthWord(s string, n int) (span, bool) {
	number := 0
	for w := range words(s) {
		number++
		if number == n {
			return w, true
		}
	}
	return span{}, false
}

func wordTexts(s string) []string {
	var list []string
	for w := range words(s) {
		list = append(list, s[w.from:w.to])
	}
	return list
}

// Words returns the number of words of s.
func Words(s string) (int, api.Errno) {
	if !areValid(s) {
		return 0, api.ErrArg
	}
	return len(wordTexts(s)), api.OK
}

// Word returns the n-th word of s; the empty string if there is none.
func Word(s string, n int) (string, api.Errno) {
	if !areValid(s) || !areAtLeast(1, n) {
		return "", api.ErrArg
	}
	w, _ := nthWord(s, n)
	return s[w.from:w.to], api.OK
}

// WordIndex returns the position of the n-th word of s; 0 if there is none.
func WordIndex(s string, n int) (int, api.Errno) {
	if !areValid(s) || !areAtLeast(1, n) {
		return 0, api.ErrArg
	}
	w, is := nthWord(s, n)
	if !is {
		return 0, api.OK
	}
	return w.from + 1, api.OK
}

// WordLength returns the length of the n-th word of s; 0 if there is none.
func WordLength(s string, n int) (int, api.Errno) {
	if !areValid(s) || !areAtLeast(1, n) {
		return 0, api.ErrArg
	}
	w, _ := nthWord(s, n)
	return w.to - w.from, api.OK
}

// Subword returns s from its n-th word to the last of length words.
func Subword(s string, n, length int) (string, api.Errno) {
	if !areValid(s) || !areAtLeast(1, n) || !isMissingOr(0, length) {
		return "", api.ErrArg
	}
	cut := subwords(s, n, length)
	return s[cut.from:cut.to], api.OK
}

// DelWord returns s without its Subword and the blanks behind that.
func DelWord(s string, n, length int) (string, api.Errno) {
	if !areValid(s) || !areAtLeast(1, n) || !isMissingOr(0, length) {
		return "", api.ErrArg
	}
	cut := subwords(s, n, length)
	if cut.from == cut.to {
		return s, api.OK
	}
	return s[:cut.from] + strings.TrimLeft(s[cut.to:], string(blank)), api.OK
}

// subwords returns the part of s that Subword returns; an empty one if there is none.
func subwords(s string, n, length int) span {
	list := slices.Collect(words(s))
	if n > len(list) || length == 0 {
		return span{}
	}
	list = list[n-1:]
	if length != api.Missing && length < len(list) {
		list = list[:length]
	}
	return span{list[0].from, list[len(list)-1].to}
}

// Space returns the words of s with n pads between each two.
func Space(s string, n int, pad byte) (string, api.Errno) {
	if !areValid(s) || !arePads(pad) || !areAtLeast(0, n) {
		return "", api.ErrArg
	}
	list := wordTexts(s)
	if len(list) == 0 {
		return "", api.OK
	}
	gaps := len(list) - 1
	if isTooLong(len(strings.Join(list, "")), times(n, gaps)) {
		return "", api.ErrLimit
	}
	if gaps == 0 { // n has no bound then
		return list[0], api.OK
	}
	return strings.Join(list, pads(n, pad)), api.OK
}

// WordPos returns the number, at least start, of the first word of s at which the words of phrase are found; 0 if there is none.
func WordPos(phrase, s string, start int) (int, api.Errno) {
	if !areValid(phrase, s) || !areAtLeast(1, start) {
		return 0, api.ErrArg
	}
	wanted, list := wordTexts(phrase), wordTexts(s)
	if len(wanted) == 0 {
		return 0, api.OK
	}
	for at := range upward(start-1, len(list)-len(wanted)) {
		if slices.Equal(list[at:at+len(wanted)], wanted) {
			return at + 1, api.OK
		}
	}
	return 0, api.OK
}
