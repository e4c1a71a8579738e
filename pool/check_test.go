package pool_test

import (
	"slices"
	"strings"
	"testing"

	"qanat/api"
	"qanat/pool"
)

// P6.1.
func TestNew(t *testing.T) {
	p := pool.New()
	if !equal(p, stack(api.Level{})) {
		t.Error(p)
	}
	p.Levels[0].Vals = pairs("I", "1")
	if q := pool.New(); !equal(q, stack(api.Level{})) || pool.Check(q) != api.OK {
		t.Error("after a change of another stack:", q)
	}
}

// longest returns a text of n bytes that begins and ends as told.
func longest(begin, end string, n int) string {
	return begin + strings.Repeat("N", n-len(begin)-len(end)) + end
}

// rightNames are names of variables, wrongNames are not.
func rightNames() []string {
	return []string{
		"A", "Z", "I", "_", "!", "?", "_1", "?9", "A1", "E5", "X_!?", "A.", "_.", "!9?.", "A.1", "A.a", "A..", "A...", "A. ", "A.\"", "A.~", "A.x y.z+", "A.1E+5", "?.!",
		longest("A", "", 40), longest("A", ".", 40), longest("A", ".", 40) + "x", longest("A", ".", 40) + strings.Repeat("~", 960), longest("A.", "", 1000), longest("A.", ".", 1000),
	}
}

func wrongNames() []string {
	return []string{
		"", " ", ".", "..", ".A", "..A", "1", "9A", "1.", "0.A", "1E5", "a", "a.", "a.1", "Aa", "Aa.1", "A B", "A B.1", " A", "A ", "A+", "A+B", "A-.1", "'A'", "(A)", "A\n", "A.\n", "A.1\x7f", "A.\x1f", "A.\x80", "A\xc0", "Ä", "A.Ä", "@", "#", "$", "A@.1", "[", "\x00", "A.\x00", "É.",
		longest("A", "", 41), longest("A", ".", 41), longest("A", ".", 41) + "1", longest("A.", "", 1001), longest("A.", ".", 1001),
	}
}

// rightSymbols are variable symbols in uppercase, wrongSymbols are not.
func rightSymbols() []string {
	return []string{"A", "_", "!", "?", "_1", "A1", "A.", "?.", "A.1", "A.B", "A..", "A...", "A..1", "A.1.", "A.1B", "A.9", "A.1E5", "A._!?", longest("A", "", 40), longest("A", ".", 40), longest("A.", "", 40), longest("A.", ".", 40), longest("A.1", "", 40)}
}

func wrongSymbols() []string {
	return append(wrongNames(), "A.b", "A.B.c", "A. ", "A.1 2", "A.+", "A.1E+5", "A.1-", "A.@", "A.[", "A.`", "A.{", "A.'x'", "A.(B)", "A.\"", longest("A.", "", 41), longest("A.", ".", 41), longest("A.1", "", 1000))
}

// P6.1: each condition of the Terms.
func TestCheck(t *testing.T) {
	low := api.Level{Vals: pairs("A.", "0", "A.1", "1", "I", "3")}
	many := slices.Repeat([]api.Level{low}, api.MaxFrames+1)
	for _, c := range []struct {
		name string
		p    api.Pools
		want api.Errno
	}{
		{"no levels", api.Pools{}, api.ErrForm},
		{"empty levels", api.Pools{Levels: []api.Level{}}, api.ErrForm},
		{"one level", stack(low), api.OK},
		{"the most levels", stack(many[:api.MaxFrames]...), api.OK},
		{"too many levels", stack(many...), api.ErrForm},
		{"links of the first level", stack(api.Level{Links: []string{"I"}}), api.ErrForm},
		{"links without values", stack(api.Level{}, api.Level{Links: []string{"A.", "A.1", "B.x y", "I"}}), api.OK},
		{"empty lists", stack(api.Level{Links: []string{}, Vals: []api.Pair{}}, api.Level{Links: []string{}, Vals: []api.Pair{}}), api.OK},
		{"links in another order", stack(low, api.Level{Links: []string{"I", "A."}}), api.ErrForm},
		{"a link twice", stack(low, api.Level{Links: []string{"I", "I"}}), api.ErrForm},
		{"values in another order", stack(api.Level{Vals: pairs("I", "3", "A.", "0")}), api.ErrForm},
		{"a value twice", stack(api.Level{Vals: pairs("I", "3", "I", "3")}), api.ErrForm},
		{"values in another order further up", stack(low, low, api.Level{Vals: pairs("J", "3", "I", "0")}, low), api.ErrForm},
		{"a link twice in between", stack(low, low, api.Level{Links: []string{"J", "J"}}, low), api.ErrForm},
		{"the order is that of bytes", stack(low, api.Level{Links: []string{"!", "?", "A", "A.", "A. ", "A.A", "A._", "A._.", "A.a", "AA", "AA.1", "_"}}), api.OK},
		{"a stem goes before", stack(api.Level{Vals: pairs("A.1", "1", "A.", "0")}), api.ErrForm},
		{"a value that is linked", stack(low, api.Level{Links: []string{"I"}, Vals: pairs("I", "3")}), api.ErrForm},
		{"a value that is linked by its stem", stack(low, api.Level{Links: []string{"A."}, Vals: pairs("A.1", "3")}), api.ErrForm},
		{"a linked stem with a value", stack(low, api.Level{Links: []string{"A."}, Vals: pairs("A.", "3")}), api.ErrForm},
		{"a value that is linked in between", stack(low, api.Level{Links: []string{"I"}, Vals: pairs("I", "3")}, api.Level{}), api.ErrForm},
		{"a linked derived name, and another one", stack(low, api.Level{Links: []string{"A.1"}, Vals: pairs("A.", "0", "A.2", "3")}), api.OK},
		{"a linked simple symbol, and its stem", stack(low, api.Level{Links: []string{"A"}, Vals: pairs("A.", "0", "A.2", "3")}), api.OK},
		{"a linked derived name, and a longer one", stack(low, api.Level{Links: []string{"A.1."}, Vals: pairs("A.1", "0", "A.1.2", "3")}), api.OK},
		{"a stem that begins in the same way", stack(low, api.Level{Links: []string{"A."}, Vals: pairs("AA.", "0", "AA.2", "3")}), api.OK},
		{"a name that is linked at another level", stack(low, api.Level{Links: []string{"I"}}, api.Level{Vals: pairs("I", "5")}), api.OK},
		{"the most values", stack(api.Level{Vals: filled("A", api.MaxVars)}), api.OK},
		{"too many values", stack(api.Level{Vals: filled("A", api.MaxVars+1)}), api.ErrForm},
		{"too many values further up", stack(low, api.Level{Vals: filled("A", api.MaxVars+1)}), api.ErrForm},
		{"the most links", stack(low, api.Level{Links: names(filled("A", api.MaxVars)), Vals: filled("B", api.MaxVars)}), api.OK},
		{"too many links", stack(low, api.Level{Links: names(filled("A", api.MaxVars+1))}), api.ErrForm},
	} {
		if e := pool.Check(c.p); e != c.want {
			t.Errorf("%s: %v", c.name, e)
		}
	}
}

// P6.1: names.
func TestCheckNames(t *testing.T) {
	for want, list := range map[api.Errno][]string{api.OK: rightNames(), api.ErrForm: wrongNames()} {
		for _, name := range list {
			value := api.Level{Vals: []api.Pair{{Name: name}}}
			for _, p := range []api.Pools{stack(value), stack(value, api.Level{}), stack(api.Level{}, value), stack(api.Level{}, api.Level{Links: []string{name}})} {
				if e := pool.Check(p); e != want {
					t.Errorf("%q: %v", name, e)
				}
			}
		}
	}
}

// P6.2 to P6.10: with ErrForm and ErrName all other results are zero; ErrForm goes first.
func TestFirstErrors(t *testing.T) {
	for _, p := range []api.Pools{{}, stack(api.Level{Links: []string{"I"}}), stack(api.Level{Vals: pairs("i", "1")})} {
		testErrors(t, p, "I", "I", "1", api.ErrForm)
		testErrors(t, p, "i", "i", "\t", api.ErrForm)
		if l, e := pool.Vars(p); e != api.ErrForm || l != nil {
			t.Error("Vars:", l, e)
		}
		if q, e := pool.Return(p); e != api.ErrForm || !isZero(q) {
			t.Error("Return:", q, e)
		}
		for _, l := range [][]api.Item{nil, {{Name: "i"}}} {
			if q, bare, code, e := pool.Expose(p, l); e != api.ErrForm || code != 0 || bare != nil || !isZero(q) {
				t.Error("Expose:", q, bare, code, e)
			}
			if q, bare, code, e := pool.DropAll(p, l); e != api.ErrForm || code != 0 || bare != nil || !isZero(q) {
				t.Error("DropAll:", q, bare, code, e)
			}
		}
		for _, pair := range [][2]api.Pools{{p, p}, {p, pool.New()}, {pool.New(), p}} {
			if l, e := pool.Diff(pair[0], pair[1]); e != api.ErrForm || l != nil {
				t.Error("Diff:", l, e)
			}
		}
	}
	for _, name := range wrongNames() {
		testErrors(t, pool.New(), name, name, "\t", api.ErrName)
	}
	for _, symbol := range wrongSymbols() {
		testErrors(t, pool.New(), "", symbol, "", api.ErrName)
	}
}

// testErrors tests the functions that have a name or a symbol: all of them have an error.
func testErrors(t *testing.T, p api.Pools, name, symbol, value string, want api.Errno) {
	t.Helper()
	if k, e := pool.Home(p, name); e != want || k != 0 {
		t.Errorf("Home of %q: %d, %v", name, k, e)
	}
	if v, is, e := pool.Get(p, name); e != want || v != "" || is {
		t.Errorf("Get of %q: %q, %v, %v", name, v, is, e)
	}
	if q, code, e := pool.Set(p, name, value); e != want || code != 0 || !isZero(q) {
		t.Errorf("Set of %q: %v, %d, %v", name, q, code, e)
	}
	if q, e := pool.Drop(p, name); e != want || !isZero(q) {
		t.Errorf("Drop of %q: %v, %v", name, q, e)
	}
	if n, code, e := pool.Derive(p, symbol); e != want || n != "" || code != 0 {
		t.Errorf("Derive of %q: %q, %d, %v", symbol, n, code, e)
	}
	if v, is, code, e := pool.Value(p, symbol); e != want || v != "" || is || code != 0 {
		t.Errorf("Value of %q: %q, %v, %d, %v", symbol, v, is, code, e)
	}
}
