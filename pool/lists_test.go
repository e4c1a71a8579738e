package pool_test

import (
	"slices"
	"strconv"
	"strings"
	"testing"

	"qanat/api"
	"qanat/pool"
)

// lists is the stack of the tests of lists.
func lists(t *testing.T) api.Pools {
	return set(t, pool.New(), "I", "3", "J", "x y", "E", "", "L", "x y.2", "N", "  i  a.i a.j x ", "A.", "a.3 b", "A.3", "J", "X", "1", "Y.2", "2", "Q", "a.", "W", "1", "V", "i (j)", "U", "a.i+1")
}

// P6.7: the links, and the names of the items in parentheses that have no value.
func TestExpose(t *testing.T) {
	p := lists(t)
	for list, want := range map[string][2]string{
		"":               {"", ""},
		"I":              {"I", ""},
		"I A.":           {"A. I", ""},
		"A. I I A.":      {"A. I", ""},
		"A.3 A. A.4":     {"A. A.3 A.4", ""},
		"A. A.3":         {"A. A.3", ""},
		"M B.":           {"B. M", ""},
		"A.I":            {"A.I", ""}, // I is not linked yet
		"I A.I":          {"A.3 I", ""},
		"A.I I":          {"A.I I", ""},
		"A.I I A.I":      {"A.3 A.I I", ""},
		"I A..I A.I.":    {"A..3 A.3. I", ""},
		"E A.E":          {"A. E", ""},
		"(L)":            {"L X Y.2", ""},
		"(L) (L)":        {"L X Y.2", ""},
		"L":              {"L", ""},
		"(M)":            {"M", "M"},
		"(M) I (B.) (M)": {"B. I M", "M B. M"},
		"(E)":            {"E", ""},
		"(N)":            {"A.3 A.J I N X", ""}, // I and A.I are words, in this order
		"I (A.I)":        {"A.3 I J", ""},
		"(A.)":           {"A. A.3 B", ""},
		"(A.4)":          {"A.4", "A.4"}, // A. is not linked
		"A. (A.4)":       {"A. A.3 A.4 B", ""},
		"(Q)":            {"A. Q", ""},
		"(I.I)":          {"I.I", "I.I"},
		"(J)":            {"J X Y", ""},
		"(X.1)":          {"X.1", "X.1"},
		"I (B.I) (B.M)":  {"B.3 B.M I", "B.3 B.M"},
	} {
		q, bare, code, e := pool.Expose(p, items(list))
		if e != api.OK || code != 0 || !slices.Equal(bare, strings.Fields(want[1])) {
			t.Errorf("Expose %s: %q, code %d, error %v", list, bare, code, e)
			continue
		}
		if !slices.Equal(q.Levels[1].Links, strings.Fields(want[0])) || len(q.Levels) != 2 || len(q.Levels[1].Vals) > 0 || !equal(back(t, q), p) {
			t.Errorf("Expose %s: %v", list, q.Levels[1])
		}
	}
}

// P6.9: the names that lose their values, and those of the items in parentheses that had none.
func TestDropAll(t *testing.T) {
	p := lists(t)
	for list, want := range map[string][2]string{
		"":           {"", ""},
		"I":          {"I", ""},
		"I I M":      {"I", ""},
		"A.":         {"A. A.3", ""},
		"A.I":        {"A.3", ""},
		"I A.I":      {"I", ""}, // I has no value any more
		"A.I I":      {"A.3 I", ""},
		"A.E":        {"A. A.3", ""},
		"(L)":        {"L X Y.2", ""},
		"(L) (L)":    {"L X Y.2", "L"},
		"L (L)":      {"L", "L"},
		"(M) (B.)":   {"", "M B."},
		"(E)":        {"E", ""},
		"(N)":        {"I N X", ""}, // A.I is A.I then, and has no value
		"(A.I)":      {"A.3 J", ""},
		"(A.4)":      {"A.3", ""}, // the words of the value of A. are A.3 and B
		"(A.)":       {"A. A.3", ""},
		"(Q) (A.)":   {"A. A.3 Q", "A."},
		"(B.I) (B.)": {"", "B.3 B."},
		"(J) I":      {"I J X", ""},
	} {
		q, bare, code, e := pool.DropAll(p, items(list))
		if e != api.OK || code != 0 || !slices.Equal(bare, strings.Fields(want[1])) || len(q.Levels) != 1 {
			t.Errorf("DropAll %s: %q, code %d, error %v", list, bare, code, e)
			continue
		}
		left := slices.DeleteFunc(slices.Clone(p.Levels[0].Vals), func(x api.Pair) bool { return slices.Contains(strings.Fields(want[0]), x.Name) })
		if !equal(q, stack(api.Level{Vals: left})) {
			t.Errorf("DropAll %s: %v", list, names(q.Levels[0].Vals))
		}
	}
}

// P6.9: what is linked is dropped further down.
func TestDropAllSharing(t *testing.T) {
	p := set(t, expose(t, lists(t), "I A."), "J", "i", "X", "5", "A.9", "6")
	q, bare, _, e := pool.DropAll(p, items("(J) A. L"))
	want := clone(p)
	want.Levels[0].Vals = slices.DeleteFunc(want.Levels[0].Vals, func(x api.Pair) bool { return x.Name == "I" || strings.HasPrefix(x.Name, "A.") })
	want.Levels[1].Vals = pairs("X", "5")
	if e != api.OK || len(bare) > 0 || !equal(q, want) {
		t.Error(q, bare, e)
	}
}

// exposeFails tests that EXPOSE with a list has an error.
func exposeFails(t *testing.T, p api.Pools, l []api.Item, wantCode int, want api.Errno) {
	t.Helper()
	if q, bare, code, e := pool.Expose(p, l); e != want || code != wantCode || bare != nil || !isZero(q) {
		t.Errorf("Expose %v: %v, %q, code %d, error %v", l, q, bare, code, e)
	}
}

// dropFails tests that DROP with a list has an error.
func dropFails(t *testing.T, p api.Pools, l []api.Item, wantCode int, want api.Errno) {
	t.Helper()
	if q, bare, code, e := pool.DropAll(p, l); e != want || code != wantCode || bare != nil || !isZero(q) {
		t.Errorf("DropAll %v: %v, %q, code %d, error %v", l, q, bare, code, e)
	}
}

// P6.7, P6.9: the errors and codes, and which goes first.
func TestListErrors(t *testing.T) {
	p := set(t, lists(t), "K", strings.Repeat("k", 999), "O", "k a.k 1", "P", "1 k a.k", "R", "a.k 1", "S", "x.~", "G", longest("n", "", 41), "H", "x "+longest("a.", "n", 41), "F", longest("a.", "n", 40))
	for _, name := range []string{"i", "1", ".", "", "A.b", "9.", "A B", longest("N", "", 41), "I+", "\t"} {
		exposeFails(t, p, []api.Item{{Name: name}}, 0, api.ErrName)
		dropFails(t, p, []api.Item{{Name: name}}, 0, api.ErrName)
		exposeFails(t, p, []api.Item{{Name: "I"}, {Name: name, Via: true}}, 0, api.ErrName)
		dropFails(t, p, []api.Item{{Name: "I"}, {Name: name, Via: true}}, 0, api.ErrName)
	}
	for _, list := range []string{"(W)", "(V)", "(U)", "(G)", "(H)", "(S)", "(P)", "I (W) i", "(M) (W)"} {
		exposeFails(t, p, items(list), 46, api.ErrCode)
		dropFails(t, p, items(list), 46, api.ErrCode)
	}
	for list, code := range map[string]int{"K A.K": 5, "K A.K i": 5, "K (A.K) (W)": 5, "(W) K A.K": 46, "(O)": 5, "K (R)": 5, "(R)": 46} {
		exposeFails(t, p, items(list), code, api.ErrCode)
	}
	// DROP takes the value of K from A.K.
	for list, code := range map[string]int{"A.K K": 5, "A.K i": 5, "(A.K) (W)": 5, "(W) A.K": 46, "(O)": 46, "(R)": 5} {
		dropFails(t, p, items(list), code, api.ErrCode)
	}
	exposeFails(t, p, items("i (W)"), 0, api.ErrName)
	dropFails(t, p, items("i (W)"), 0, api.ErrName)
	if q := expose(t, p, "(F)"); !slices.Equal(q.Levels[1].Links, []string{longest("A.", "N", 40), "F"}) {
		t.Error(q.Levels[1])
	}
	if q := expose(t, p, strings.Repeat("I ", api.MaxVars*2)); !slices.Equal(q.Levels[1].Links, []string{"I"}) {
		t.Error(q.Levels[1])
	}
}

// P6.7: as many levels as there can be.
func TestMostLevels(t *testing.T) {
	p := lists(t)
	for k := range api.MaxFrames - 1 {
		exposeFails(t, p, items("I i"), 0, api.ErrName)
		if p = expose(t, p, "I"); len(p.Levels) != k+2 {
			t.Fatal(len(p.Levels))
		}
	}
	for _, list := range []string{"", "I", "I i", "I (W)"} {
		exposeFails(t, p, items(list), 0, api.ErrLimit)
	}
	if k, e := pool.Home(p, "I"); e != api.OK || k != 0 {
		t.Error(k, e)
	}
	if q := set(t, p, "I", "9"); q.Levels[0].Vals[3] != (api.Pair{Name: "I", Value: "9"}) {
		t.Error(q.Levels[0])
	}
}

// P6.7: as many links as there can be; those that are there already are not counted.
func TestMostLinks(t *testing.T) {
	list := names(filled("B", api.MaxVars))
	p := set(t, pool.New(), "L", "b1000 b1007", "M", "b1000 b1007 x", "N", "x 1", "O", "1 x", "K", strings.Repeat("k", 999))
	all := strings.Join(list, " ")
	for _, right := range []string{all, all + " B1003", all + " B1003 B1499", all + " (B1000)", "(L) " + strings.Join(list[:499], " "), "(M) " + strings.Join(list[:498], " "), strings.Join(list[:498], " ") + " (M)"} {
		expose(t, p, right)
	}
	for _, wrong := range []string{all + " X", all + " B1003 X", all + " X.", all + " X 1", all + " (X)", all + " X.1 i", strings.Join(list[1:], " ") + " (L)", "(L) " + all, strings.Join(list[:499], " ") + " (M)", strings.Join(list[:499], " ") + " (N)", "K " + strings.Join(list[:499], " ") + " A.K i"} {
		exposeFails(t, p, items(wrong), 5, api.ErrCode)
	}
	exposeFails(t, p, items(strings.Join(list[:498], " ")+" (N)"), 46, api.ErrCode)
	exposeFails(t, p, items(strings.Join(list[:499], " ")+" (O)"), 46, api.ErrCode)
	exposeFails(t, p, items(all+" B1499 i"), 0, api.ErrName)
}

// P6.9: DROP has no limit of names.
func TestDropMany(t *testing.T) {
	p := stack(api.Level{Vals: filled("B", api.MaxVars)})
	var l []api.Item
	for k := range 3 * api.MaxVars {
		l = append(l, api.Item{Name: "B" + strconv.Itoa(1000+k)})
	}
	if q, bare, code, e := pool.DropAll(p, l); e != api.OK || code != 0 || len(bare) > 0 || !equal(q, pool.New()) {
		t.Error(bare, code, e)
	}
}
