package cut_test

import (
	"slices"
	"testing"

	"qanat/api"
	"qanat/cut"
)

// These tests keep readings of sentences of the chapter that can be read in more than one way.

// P7.4: variables are told apart by their symbols; a stem that is assigned leaves the others of the list as they are.
func TestStems(t *testing.T) {
	given := pairs("A.1", "x", "A.", "y", "A", "z")
	l, e := cut.After(tmpl("A. A.I A.1.2"), []string{"1 2 3"}, given)
	if e != api.OK || !slices.Equal(l, pairs("A.1", "x", "A.", "1", "A", "z", "A.I", "2", "A.1.2", "3")) {
		t.Error(l, e)
	}
}

// P7.4: the names of variables that are given need not be symbols.
func TestGivenNames(t *testing.T) {
	given := pairs("", "1", "a", "2", "\x00", "3", "A.b c", "4")
	l, e := cut.After(tmpl("A"), []string{"5"}, given)
	if e != api.OK || !slices.Equal(l, append(slices.Clone(given), pairs("A", "5")...)) {
		t.Error(l, e)
	}
}

// P7.6: a piece is empty if its interval is, whatever its Value is.
func TestEmptyPieces(t *testing.T) {
	for want, l := range map[string][]api.Piece{
		"aYXc": {{From: 1, To: 2, Value: "X"}, {From: 1, To: 1, Value: "Y"}},
		"aYc":  {{From: 1, To: 2}, {From: 1, To: 1, Value: "Y"}},
		"aXc":  {{From: 1, To: 2, Value: "X"}, {From: 1, To: 1}},
		"aZYc": {{From: 1, To: 1, Value: "Z"}, {From: 1, To: 2}, {From: 1, To: 1, Value: "Y"}},
	} {
		if s, e := cut.Join([]string{"abc"}, l, 0); e != api.OK || s != want {
			t.Errorf("%v: %q, %v; want %q", l, s, e, want)
		}
	}
}
