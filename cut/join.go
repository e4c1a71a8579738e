package cut

import (
	"cmp"
	"slices"
	"strings"

	"qanat/api"
)

// filtered returns the elements of a list for which is is true.
func filtered[T any](list []T, is func(T) bool) []T {
	var kept []T
	for _, x := range list {
		if is(x) {
			kept = append(kept, x)
		}
	}
	return kept
}

func isEmpty(p api.Piece) bool { return p.From == p.To }

func isFilled(p api.Piece) bool { return !isEmpty(p) }

// ordered returns the pieces of a string in the order in which they are joined, or an error.
func ordered(strs []string, l []api.Piece, str int) ([]api.Piece, api.Errno) {
	if e := stringsError(strs); e != api.OK {
		return nil, e
	}
	if str < 0 || str >= len(strs) || len(l) > api.MaxParts {
		return nil, api.ErrArg
	}
	pieces := filtered(l, func(p api.Piece) bool { return p.Str == str })
	for _, p := range pieces {
		if p.From < 0 || p.To < p.From || p.To > len(strs[str]) {
			return nil, api.ErrArg
		}
	}
	slices.SortStableFunc(pieces, inOrder)
	return pieces, api.OK
}

// inOrder compares pieces by their begin; an empty one goes before the others there.
func inOrder(a, b api.Piece) int {
	order := cmp.Compare(a.From, b.From)
	switch {
	case order != 0 || isEmpty(a) == isEmpty(b):
		return order
	case isEmpty(a):
		return -1
	}
	return 1
}

// gaps returns the intervals of a string that none of its pieces, which are in order, covers. Empty pieces do not divide them.
func gaps(s string, pieces []api.Piece) [][2]int {
	var list [][2]int
	at := 0
	for _, p := range filtered(pieces, isFilled) {
		if p.From > at {
			list = append(list, [2]int{at, p.From})
		}
		at = max(at, p.To)
	}
	if at < len(s) {
		list = append(list, [2]int{at, len(s)})
	}
	return list
}

// overlap reports whether two pieces, which are in order, cover the same byte.
func overlap(pieces []api.Piece) bool {
	at := 0
	for _, p := range filtered(pieces, isFilled) {
		if p.From < at {
			return true
		}
		at = p.To
	}
	return false
}

// spliced returns the values of pieces, which are in order, with the bytes between them.
func spliced(s string, pieces []api.Piece) string {
	var text strings.Builder
	at := 0
	for _, p := range pieces {
		text.WriteString(s[at:max(at, p.From)])
		text.WriteString(p.Value)
		at = max(at, p.To)
	}
	text.WriteString(s[at:])
	return text.String()
}
