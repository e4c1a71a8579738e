package pool_test

import (
	"slices"
	"strings"
	"testing"

	"qanat/api"
	"qanat/pool"
)

// These tests keep readings of sentences of the chapter that can be read in more than one way.

// P6.1, P6.16: what is in Vals is a value as the Terms define it, so that what is derived from it is a name.
func TestCheckValues(t *testing.T) {
	for value, want := range map[string]api.Errno{
		"": api.OK, " ~": api.OK, strings.Repeat(" ", api.MaxString): api.OK, strings.Repeat("1", api.MaxString+1): api.ErrForm, "\n": api.ErrForm, "1\x1f": api.ErrForm, "\x7f1": api.ErrForm, "a\x80": api.ErrForm,
	} {
		for _, p := range []api.Pools{stack(api.Level{Vals: pairs("I", value)}), stack(api.Level{}, api.Level{Vals: pairs("A.1", value)}, api.Level{})} {
			if e := pool.Check(p); e != want {
				t.Errorf("%q: %v", value, e)
			}
		}
	}
}

// P6.7, P6.9: the value of an item that has none is its name, so the words of the name are visited.
func TestOwnName(t *testing.T) {
	p := set(t, pool.New(), "I", "x", "J", "1 c", "X", "9", "C", "8", "A.X", "7", "A.x", "6", "K", "1 +")
	for list, want := range map[string]struct{ links, bare []string }{
		"I (B.I)": {[]string{"B.X", "B.x", "I"}, []string{"B.x"}},
		"J (B.J)": {[]string{"B.1", "B.1 c", "C", "J"}, []string{"B.1 c"}},
	} {
		q, bare, _, e := pool.Expose(p, items(list))
		if e != api.OK || !slices.Equal(bare, want.bare) || !slices.Equal(q.Levels[1].Links, want.links) {
			t.Errorf("Expose %s: %q, %v, error %v", list, bare, q, e)
		}
	}
	exposeFails(t, p, items("K (B.K)"), 46, api.ErrCode)
	dropFails(t, p, items("(B.K)"), 46, api.ErrCode)
	if q, bare, _, e := pool.DropAll(p, items("(B.J)")); e != api.OK || !slices.Equal(bare, []string{"B.1 c"}) || !slices.Equal(names(q.Levels[0].Vals), []string{"A.X", "A.x", "I", "J", "K", "X"}) {
		t.Error("DropAll:", q, bare, e)
	}
}
