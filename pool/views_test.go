package pool_test

import (
	"slices"
	"strings"
	"testing"

	"qanat/api"
	"qanat/pool"
)

// P6.8.
func TestReturn(t *testing.T) {
	low, middle := api.Level{Vals: pairs("I", "3")}, api.Level{Links: []string{"I"}, Vals: pairs("J", "4")}
	p := stack(low, middle, api.Level{Links: []string{"J"}, Vals: pairs("K", "5")})
	q, e := pool.Return(p)
	if e != api.OK || !equal(q, stack(low, middle)) {
		t.Error(q, e)
	}
	if q, e = pool.Return(q); e != api.OK || !equal(q, stack(low)) {
		t.Error(q, e)
	}
	if q, e = pool.Return(q); e != api.ErrState || !isZero(q) {
		t.Error(q, e)
	}
}

// views are two stacks of the tests of Vars and Diff.
func views() (api.Pools, api.Pools) {
	low := api.Level{Vals: pairs("A.", "a", "A.1", "a1", "A.2", "a2", "B.1", "b1", "I", "i", "J", "j")}
	return stack(low, api.Level{Links: []string{"A.2", "B.", "I"}, Vals: pairs("A.", "aa", "A.1", "", "K", "k", "Z", "z")}),
		stack(low, api.Level{Links: []string{"A.", "B.1"}, Vals: pairs("B.", "a", "I", "i", "J", "", "K", "kk", "_", "u")})
}

// P6.10.
func TestVars(t *testing.T) {
	p, q := views()
	for _, c := range []struct {
		p    api.Pools
		want []api.Pair
	}{
		{p, pairs("A.", "aa", "A.1", "", "A.2", "a2", "B.1", "b1", "I", "i", "K", "k", "Z", "z")},
		{q, pairs("A.", "a", "A.1", "a1", "A.2", "a2", "B.", "a", "B.1", "b1", "I", "i", "J", "", "K", "kk", "_", "u")},
		{expose(t, p, "K B. J A.2"), pairs("A.2", "a2", "B.1", "b1", "K", "k")},
		{expose(t, p, ""), nil},
		{pool.New(), nil},
		{back(t, p), p.Levels[0].Vals},
	} {
		if l, e := pool.Vars(c.p); e != api.OK || !slices.Equal(l, c.want) {
			t.Errorf("Vars of %v: %v, %v", c.p, l, e)
		}
	}
}

// P6.10.
func TestDiff(t *testing.T) {
	p, q := views()
	for _, c := range []struct {
		p, q api.Pools
		want string
	}{
		{p, p, ""}, {q, q, ""}, {p, q, "A. A.1 B. J K Z _"}, {p, pool.New(), "A. A.1 A.2 B.1 I K Z"}, {p, back(t, p), "A. A.1 J K Z"}, {expose(t, p, ""), pool.New(), ""}, {expose(t, p, "K"), set(t, pool.New(), "K", "k"), ""}, {set(t, pool.New(), "K", ""), pool.New(), "K"},
	} {
		for _, pair := range [][2]api.Pools{{c.p, c.q}, {c.q, c.p}} {
			if l, e := pool.Diff(pair[0], pair[1]); e != api.OK || !slices.Equal(l, strings.Fields(c.want)) {
				t.Errorf("Diff of %v: %q, %v; want %s", pair, l, e, c.want)
			}
		}
	}
}

// The examples of the chapter.
func TestExamples(t *testing.T) {
	p := set(t, pool.New(), "I", "3")
	if name, _, e := pool.Derive(p, "A.I.1"); e != api.OK || name != "A.3.1" {
		t.Error(name, e)
	}
	p = set(t, p, "A.", "0")
	testValue(t, p, "A.X", "0", true)
	p = set(t, p, "A.3", "7")
	testValue(t, p, "A.I", "7", true)
	if l, e := pool.Vars(p); e != api.OK || !slices.Equal(l, pairs("A.", "0", "A.3", "7", "I", "3")) {
		t.Error(l, e)
	}
	p = set(t, p, "A.", "1")
	testValue(t, p, "A.I", "1", true)
	testValue(t, p, "B.I", "B.3", false)
	q := expose(t, p, "I A.")
	if v, is, e := pool.Get(q, "I"); e != api.OK || !is || v != "3" {
		t.Error(v, is, e)
	}
	if k, e := pool.Home(q, "A.9"); e != api.OK || k != 0 {
		t.Error(k, e)
	}
	q = back(t, set(t, q, "I", "4", "J", "5"))
	testValue(t, q, "I", "4", true)
	testValue(t, q, "J", "J", false)
	if q = expose(t, set(t, p, "L", "x y.2"), "(L)"); !slices.Equal(q.Levels[1].Links, []string{"L", "X", "Y.2"}) {
		t.Error(q)
	}
	exposeFails(t, set(t, p, "L", "1"), items("(L)"), 46, api.ErrCode)
	if q, bare, _, e := pool.Expose(p, items("(M)")); e != api.OK || !slices.Equal(bare, []string{"M"}) || !slices.Equal(q.Levels[1].Links, []string{"M"}) {
		t.Error(q, bare, e)
	}
}

func testValue(t *testing.T, p api.Pools, symbol, want string, wantIs bool) {
	t.Helper()
	if v, is, code, e := pool.Value(p, symbol); e != api.OK || code != 0 || v != want || is != wantIs {
		t.Errorf("Value of %s: %q, %v, %d, %v", symbol, v, is, code, e)
	}
}
