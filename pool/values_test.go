package pool_test

import (
	"slices"
	"strings"
	"testing"

	"qanat/api"
	"qanat/pool"
)

// P6.2: homes, in a stack of four levels.
func TestHome(t *testing.T) {
	p := stack(
		api.Level{Vals: pairs("A.", "a", "A.1", "a1", "I", "i", "J", "j")},
		api.Level{Links: []string{"A.", "A.1", "I"}, Vals: pairs("B.", "b", "B.1", "b1", "J", "jj")},
		api.Level{Links: []string{"A.1", "B.", "I"}, Vals: pairs("A.", "aa", "A.2", "a2", "K", "k")},
		api.Level{Links: []string{"A.", "B.1", "J", "K"}, Vals: pairs("B.", "bb", "B.1.1", "b11", "L.", "")},
	)
	for name, want := range map[string]struct {
		home  int
		value string
		is    bool
	}{
		"A.": {2, "aa", true}, "A.1": {0, "a1", true}, "A.2": {2, "a2", true}, "A.3": {2, "", false}, "A.1.1": {2, "", false}, "A..": {2, "", false},
		"B.": {3, "bb", true}, "B.1": {1, "b1", true}, "B.2": {3, "", false}, "B.1.1": {3, "b11", true}, "B.1.": {3, "", false},
		"I": {3, "", false}, "I.": {3, "", false}, "J": {2, "", false}, "K": {2, "k", true}, "K.1": {3, "", false}, "A": {3, "", false}, "AA.1": {3, "", false}, "L.": {3, "", true}, "L.1": {3, "", false},
	} {
		if k, e := pool.Home(p, name); e != api.OK || k != want.home {
			t.Errorf("Home of %s: %d, %v; want %d", name, k, e, want.home)
		}
		if v, is, e := pool.Get(p, name); e != api.OK || v != want.value || is != want.is {
			t.Errorf("Get of %s: %q, %v, %v; want %q, %v", name, v, is, e, want.value, want.is)
		}
	}
}

// P6.2, P6.3: all names of variables have a home, and can have each value.
func TestRightNames(t *testing.T) {
	values := []string{"", " ", "~", "'", "abc", "ABC", "x. y", strings.Repeat(" ", api.MaxString), strings.Repeat("~", api.MaxString)}
	for _, name := range rightNames() {
		for _, value := range values {
			p := set(t, pool.New(), name, value)
			if v, is, e := pool.Get(p, name); e != api.OK || v != value || !is || !equal(p, stack(api.Level{Vals: pairs(name, value)})) {
				t.Errorf("Get of %q: %q, %v, %v", name, v, is, e)
			}
		}
		if k, e := pool.Home(pool.New(), name); e != api.OK || k != 0 {
			t.Errorf("Home of %q: %d, %v", name, k, e)
		}
	}
}

// P6.3.
func TestSet(t *testing.T) {
	p := set(t, pool.New(), "J", "2", "A.3", "7", "A.", "0", "A.1", "1", "AA.1", "2", "I", "3", "A", "9", "B.1", "8", "A.x", "4")
	if want := stack(api.Level{Vals: pairs("A", "9", "A.", "0", "A.1", "1", "A.x", "4", "AA.1", "2", "B.1", "8", "I", "3", "J", "2")}); !equal(p, want) {
		t.Error(p)
	}
	if q := set(t, p, "I", "5"); !slices.Contains(q.Levels[0].Vals, api.Pair{Name: "I", Value: "5"}) || len(q.Levels[0].Vals) != 8 {
		t.Error(q)
	}
	if q := set(t, p, "A.", ""); !equal(q, stack(api.Level{Vals: pairs("A", "9", "A.", "", "AA.1", "2", "B.1", "8", "I", "3", "J", "2")})) {
		t.Error(q)
	}
	if q := set(t, p, "C.", "1"); len(q.Levels[0].Vals) != 9 {
		t.Error(q)
	}
	for _, value := range []string{"\n", "\x1f", "\x7f", "a\x80", "\xff", strings.Repeat("v", api.MaxString+1)} {
		if q, code, e := pool.Set(p, "I", value); e != api.ErrArg || code != 0 || !isZero(q) {
			t.Errorf("%q: %v, %d, %v", value, q, code, e)
		}
	}
}

// P6.3, P6.4: the derived names of a stem lose their values at their homes, which are not all that of the stem.
func TestStem(t *testing.T) {
	p := stack(
		api.Level{Vals: pairs("A.1", "1", "A.2", "2", "A.3", "3", "B.1", "b")},
		api.Level{Links: []string{"A.1", "B."}, Vals: pairs("A.", "0", "A.2", "22", "A.4", "4")},
		api.Level{Links: []string{"A.1", "A.2"}, Vals: pairs("A.", "00", "A.3", "33")},
	)
	want := stack(
		api.Level{Vals: pairs("A.2", "2", "A.3", "3", "B.1", "b")},
		api.Level{Links: []string{"A.1", "B."}, Vals: pairs("A.", "0", "A.4", "4")},
		api.Level{Links: []string{"A.1", "A.2"}, Vals: pairs("A.", "9")},
	)
	if q := set(t, p, "A.", "9"); !equal(q, want) {
		t.Error("Set:", q)
	}
	want.Levels[2].Vals = nil
	if q, e := pool.Drop(p, "A."); e != api.OK || !equal(q, want) {
		t.Error("Drop:", q, e)
	}
	if q, e := pool.Drop(want, "A."); e != api.OK || !equal(q, want) {
		t.Error("Drop again:", q, e)
	}
}

// P6.3: where there is no room for one more value.
func TestFull(t *testing.T) {
	full := filled("A.", api.MaxVars)
	testFull(t, stack(api.Level{Vals: full}), "I", 5)
	testFull(t, stack(api.Level{Vals: full}), "A.1", 5)
	testFull(t, stack(api.Level{Vals: full}), "B.", 5)
	testFull(t, stack(api.Level{Vals: full}), "A.1007", 0)
	testFull(t, stack(api.Level{Vals: full}), "A.", 0)
	testFull(t, stack(api.Level{Vals: full[1:]}), "I", 0)
	testFull(t, stack(api.Level{Vals: full}, api.Level{}), "I", 0)
	testFull(t, stack(api.Level{Vals: full}, api.Level{Links: []string{"I"}}), "I", 5)
	testFull(t, stack(api.Level{Vals: full}, api.Level{Links: []string{"A."}}), "A.1", 5)
	testFull(t, stack(api.Level{Vals: full}, api.Level{Links: []string{"A."}}), "A.", 0)
	testFull(t, stack(api.Level{Vals: full}, api.Level{Links: []string{"A.1007"}}), "A.1007", 0)
	testFull(t, stack(api.Level{}, api.Level{Links: []string{"I"}, Vals: full}), "I", 0)
	testFull(t, stack(api.Level{}, api.Level{Links: []string{"I"}, Vals: full}), "J", 5)
	// Here the level of the stem loses none of its values.
	testFull(t, stack(api.Level{Vals: pairs("B.1", "1")}, api.Level{Links: []string{"B.1"}, Vals: full}), "B.", 5)
}

// testFull sets a name in a stack, which has a code or not.
func testFull(t *testing.T, p api.Pools, name string, want int) {
	t.Helper()
	q, code, e := pool.Set(p, name, "v")
	if code != want || (e == api.ErrCode) != (want != 0) || isZero(q) != (want != 0) {
		t.Errorf("Set of %s: code %d, error %v", name, code, e)
	}
	if q, code, e := pool.Set(p, name, "\n"); e != api.ErrArg || code != 0 || !isZero(q) {
		t.Errorf("Set of %s to a line feed: code %d, error %v", name, code, e)
	}
}

// P6.4.
func TestDrop(t *testing.T) {
	vals := pairs("A", "9", "A.", "0", "A.1", "1", "A.1.1", "11", "A.2", "2", "AA.1", "2", "I", "3")
	for name, want := range map[string][]api.Pair{
		"A": vals[1:], "A.": append(pairs("A", "9"), vals[5:]...), "A.1": slices.Delete(slices.Clone(vals), 2, 3), "I": vals[:6],
		"A.3": vals, "J": vals, "I.": vals, "A.1.": vals, "AA": vals, "B.": vals,
	} {
		q, e := pool.Drop(stack(api.Level{Vals: vals}), name)
		if e != api.OK || !equal(q, stack(api.Level{Vals: want})) {
			t.Errorf("Drop of %s: %v, %v", name, q, e)
		}
		q, e = pool.Drop(stack(api.Level{Vals: vals}, api.Level{Links: []string{"A", "A.", "I"}}), name)
		if name != "AA" && (e != api.OK || !equal(back(t, q), stack(api.Level{Vals: want}))) {
			t.Errorf("Drop of %s, linked: %v, %v", name, q, e)
		}
		p := stack(api.Level{Vals: vals}, api.Level{})
		if q, e = pool.Drop(p, name); e != api.OK || !equal(q, p) {
			t.Errorf("Drop of %s, not linked: %v, %v", name, q, e)
		}
	}
}

// P6.5.
func TestDerive(t *testing.T) {
	p := set(t, pool.New(), "I", "3", "E", "", "X", "a B.c", "A", "no", "A.", "no", "A.3", "no", "A.I", "no", "_1", "under", "?", "Q")
	for symbol, want := range map[string]string{
		"I": "I", "A": "A", "J": "J", "A.": "A.", "I.": "I.",
		"A.I": "A.3", "A.J": "A.J", "A.I.1": "A.3.1", "A.1": "A.1", "A.1I": "A.1I", "A.3": "A.3", "A.X": "A.a B.c", "A.X.I": "A.a B.c.3", "A._1": "A.under", "A.?": "A.Q", "A.I.": "A.3.", "A..I": "A..3", "A..": "A..", "A...": "A...", "I.I": "I.3", "A.A": "A.no", "A.I.J.I": "A.3.J.3",
		"A.E": "A.", "A.E.": "A..", "A..E": "A..", "A.E.E": "A..", "A.E.I": "A..3", "B.E": "B.",
	} {
		if name, code, e := pool.Derive(p, symbol); e != api.OK || code != 0 || name != want {
			t.Errorf("Derive of %s: %q, %d, %v; want %q", symbol, name, code, e, want)
		}
	}
	for _, symbol := range rightSymbols() {
		if name, code, e := pool.Derive(pool.New(), symbol); e != api.OK || code != 0 || name != symbol {
			t.Errorf("Derive of %q: %q, %d, %v", symbol, name, code, e)
		}
		if v, is, code, e := pool.Value(pool.New(), symbol); e != api.OK || code != 0 || v != symbol || is {
			t.Errorf("Value of %q: %q, %v, %d, %v", symbol, v, is, code, e)
		}
	}
}

// P6.5, P6.6: derived names that are as long as they can be, and longer ones.
func TestLongNames(t *testing.T) {
	p := set(t, pool.New(), "K", strings.Repeat("k", 998), "L", strings.Repeat("l", 999), "H", strings.Repeat("h", 499), "A.", "0")
	for symbol, want := range map[string]int{"A.K": 1000, "A.L": -1, "A.H.1": 503, "A.H.H": -1, "A.H.4567": 506, "A..K": -1, "A.K.": -1, "AA.K": -1, "AA.H": 502, "L": 1, "A.H.H.H.H.H.H": -1} {
		name, code, e := pool.Derive(p, symbol)
		value, is, vcode, ve := pool.Value(p, symbol)
		if code != vcode || e != ve {
			t.Errorf("Value of %s: code %d, error %v", symbol, vcode, ve)
		}
		if want > 0 && (len(name) != want || code != 0 || e != api.OK) {
			t.Errorf("Derive of %s: %d bytes, code %d, error %v", symbol, len(name), code, e)
		}
		if want < 0 && (name != "" || code != 5 || e != api.ErrCode || value != "" || is) {
			t.Errorf("Derive of %s: %d bytes, code %d, error %v; %q, %v", symbol, len(name), code, e, value, is)
		}
	}
}

// P6.5, P6.6: the values are those that are seen from the current level.
func TestDeriveSharing(t *testing.T) {
	p := expose(t, set(t, pool.New(), "I", "3", "J", "4", "A.", "0", "A.3", "7", "B.", "1", "B.4", "8"), "I A. B.J")
	for symbol, want := range map[string]struct {
		name, value string
		is          bool
	}{
		"A.I": {"A.3", "7", true}, "A.J": {"A.J", "0", true}, "I": {"I", "3", true}, "J": {"J", "J", false}, "B.I": {"B.3", "B.3", false}, "B.": {"B.", "B.", false}, "B.4": {"B.4", "B.4", false},
	} {
		name, code, e := pool.Derive(p, symbol)
		if e != api.OK || code != 0 || name != want.name {
			t.Errorf("Derive of %s: %q, %d, %v", symbol, name, code, e)
		}
		value, is, code, e := pool.Value(p, symbol)
		if e != api.OK || code != 0 || value != want.value || is != want.is {
			t.Errorf("Value of %s: %q, %v, %d, %v", symbol, value, is, code, e)
		}
	}
}

// P6.6.
func TestValue(t *testing.T) {
	p := set(t, pool.New(), "I", "3", "E", "", "Z", "", "A.", "0", "A.3", "7", "A.J", "8", "C.1", "c", "D.", "", "D.5", "")
	for symbol, want := range map[string]struct {
		value string
		is    bool
	}{
		"I": {"3", true}, "J": {"J", false}, "Z": {"", true}, "A.": {"0", true}, "B.": {"B.", false}, "C.": {"C.", false}, "A": {"A", false},
		"A.I": {"7", true}, "A.3": {"7", true}, "A.J": {"8", true}, "A.K": {"0", true}, "A..I": {"0", true}, "A.I.I": {"0", true}, "A.E": {"0", true},
		"B.I": {"B.3", false}, "B.J": {"B.J", false}, "B.E": {"B.", false}, "C.1": {"c", true}, "C.I": {"C.3", false}, "C.E": {"C.", false},
		"D.": {"", true}, "D.5": {"", true}, "D.6": {"", true}, "I.1": {"I.1", false},
	} {
		if value, is, code, e := pool.Value(p, symbol); e != api.OK || code != 0 || value != want.value || is != want.is {
			t.Errorf("Value of %s: %q, %v, %d, %v; want %q, %v", symbol, value, is, code, e, want.value, want.is)
		}
	}
}
