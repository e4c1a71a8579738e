package pool_test

import (
	"math/rand"
	"slices"
	"strconv"
	"strings"
	"testing"

	"qanat/api"
	"qanat/pool"
)

// set assigns values to names, in pairs.
func set(t *testing.T, p api.Pools, l ...string) api.Pools {
	t.Helper()
	for k := 0; k < len(l); k += 2 {
		q, code, e := pool.Set(p, l[k], l[k+1])
		if e != api.OK || code != 0 {
			t.Fatalf("Set %q: code %d, error %v", l[k], code, e)
		}
		p = q
	}
	return p
}

// items returns the items of a list as it is written: (X) is X and those that its value names.
func items(list string) []api.Item {
	var l []api.Item
	for _, word := range strings.Fields(list) {
		name, via := strings.CutPrefix(word, "(")
		l = append(l, api.Item{Name: strings.TrimSuffix(name, ")"), Via: via})
	}
	return l
}

// expose enters a level with the items of a list.
func expose(t *testing.T, p api.Pools, list string) api.Pools {
	t.Helper()
	q, _, code, e := pool.Expose(p, items(list))
	if e != api.OK || code != 0 {
		t.Fatalf("Expose %s: code %d, error %v", list, code, e)
	}
	return q
}

// back returns to the level below.
func back(t *testing.T, p api.Pools) api.Pools {
	t.Helper()
	q, e := pool.Return(p)
	if e != api.OK {
		t.Fatalf("Return: error %v", e)
	}
	return q
}

// pairs returns names with their values.
func pairs(l ...string) []api.Pair {
	var list []api.Pair
	for k := 0; k < len(l); k += 2 {
		list = append(list, api.Pair{Name: l[k], Value: l[k+1]})
	}
	return list
}

// filled returns pairs with n names that begin in the same way, in their order.
func filled(begin string, n int) []api.Pair {
	var list []api.Pair
	for k := range n {
		list = append(list, api.Pair{Name: begin + strconv.Itoa(1000+k)})
	}
	return list
}

// names returns the names of pairs.
func names(l []api.Pair) []string {
	var list []string
	for _, pair := range l {
		list = append(list, pair.Name)
	}
	return list
}

// stack returns a stack of levels.
func stack(levels ...api.Level) api.Pools { return api.Pools{Levels: levels} }

// clone returns a copy of a stack.
func clone(p api.Pools) api.Pools {
	q := api.Pools{Levels: slices.Clone(p.Levels)}
	for k, level := range q.Levels {
		q.Levels[k] = api.Level{Links: slices.Clone(level.Links), Vals: slices.Clone(level.Vals)}
	}
	return q
}

// equal reports whether two stacks are equal.
func equal(p, q api.Pools) bool {
	return slices.EqualFunc(p.Levels, q.Levels, func(a, b api.Level) bool {
		return slices.Equal(a.Links, b.Links) && slices.Equal(a.Vals, b.Vals)
	})
}

// isZero reports whether a stack is the zero value.
func isZero(p api.Pools) bool { return len(p.Levels) == 0 }

// source makes random arguments, always the same ones.
type source struct{ *rand.Rand }

func newSource(seed int64) source { return source{rand.New(rand.NewSource(seed))} }

// one returns one of a list.
func (r source) one(list ...string) string { return list[r.Intn(len(list))] }

// name returns the name of a variable; the names are few, so that they meet.
func (r source) name() string {
	return r.one("I", "J", "K", "A", "?", "_1", "A.", "B.", "I.", "A.1", "A.2", "A.I", "A.i", "A.?", "A..", "A..1", "A.1.2", "A.1 2", "A.x.", "A. ", "B.1", "B.I", "B.2.", "I.1", "I.I", "AA.1", "AA.")
}

// symbol returns a variable symbol.
func (r source) symbol() string {
	return r.one("I", "J", "K", "A", "?", "_1", "A.", "B.", "I.", "A.1", "A.I", "A.J", "A.K", "A.A", "A.?", "A..", "A..I", "A.I.J", "A.I.", "A.1I", "A._1.?", "B.I", "B.J", "B.1.I", "I.1", "I.I", "I.J.I", "AA.I")
}

// value returns a value; some are names.
func (r source) value() string {
	return r.one("", "", "1", "2", "i", "x", "?", " ", "1 2", "x.", "k", "A.I", "a.1", "i.", " i  j ", "a. b.1 a.j", "aa. ?", "_1", "(i", "1x", strings.Repeat("v", 498), strings.Repeat("w", api.MaxString))
}

// list returns the items of a list; vias tells whether some of them name others.
func (r source) list(vias bool) []api.Item {
	var l []api.Item
	for range r.Intn(5) {
		l = append(l, api.Item{Name: r.symbol(), Via: vias && r.Intn(3) == 0})
	}
	return l
}

// step returns a stack after a random change, or the stack itself if that has an error.
func (r source) step(p api.Pools) api.Pools {
	q, e := p, api.OK
	switch r.Intn(10) {
	case 0:
		q, e = pool.Drop(p, r.name())
	case 1:
		q, _, _, e = pool.Expose(p, r.list(true))
	case 2:
		q, e = pool.Return(p)
	case 3:
		q, _, _, e = pool.DropAll(p, r.list(true))
	default:
		q, _, e = pool.Set(p, r.name(), r.value())
	}
	if e != api.OK {
		return p
	}
	return q
}

// stack returns a stack after some random changes.
func (r source) stack() api.Pools {
	p := pool.New()
	for range r.Intn(40) {
		p = r.step(p)
	}
	return p
}
