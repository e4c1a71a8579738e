package pool_test

import (
	"cmp"
	"maps"
	"reflect"
	"slices"
	"strings"
	"testing"

	"qanat/api"
	"qanat/pool"
)

// P6.2 to P6.10, against the model: random changes, and all that is seen after each of them.
func TestModel(t *testing.T) {
	r := newSource(60)
	counts := map[int]int{}
	for range 1500 {
		p, m := pool.New(), newModel()
		for range 40 {
			counts[changed(t, r, &p, &m)]++
			if !equal(p, m.pools()) {
				t.Fatalf("%v; want %v", p, m.pools())
			}
			look(t, r, p, m)
		}
	}
	for _, code := range []int{0, 5, 46} {
		if counts[code] < 30 {
			t.Errorf("code %d: only %d times", code, counts[code])
		}
	}
}

// changed changes a stack and its model in the same way, at random; it returns the code.
func changed(t *testing.T, r source, p *api.Pools, m **model) int {
	t.Helper()
	next, q := (*m).copied(), api.Pools{}
	var code, want int
	var e api.Errno
	var bare, wantBare []string
	switch kind := r.Intn(10); {
	case kind == 0:
		name := r.name()
		q, e = pool.Drop(*p, name)
		next.drop(name)
	case kind == 1 && len(p.Levels) > 1:
		q, e = pool.Return(*p)
		next.leave()
	case kind == 2 && len(p.Levels) < api.MaxFrames || len(p.Levels) == 1 && kind < 3:
		l := r.list(true)
		q, bare, code, e = pool.Expose(*p, l)
		next.enter()
		wantBare, want = next.lists(l, true)
	case kind < 5:
		l := r.list(true)
		q, bare, code, e = pool.DropAll(*p, l)
		wantBare, want = next.lists(l, false)
	default:
		name, value := r.name(), r.value()
		q, code, e = pool.Set(*p, name, value)
		want = next.set(name, value)
	}
	if code != want || !slices.Equal(bare, wantBare) || (e == api.ErrCode) != (code != 0) || code == 0 && e != api.OK {
		t.Fatalf("%v: code %d, %q, error %v; want code %d, %q", *p, code, bare, e, want, wantBare)
	}
	if code == 0 {
		*p, *m = q, next
	}
	return code
}

// look compares what is seen of a stack with what is seen of its model.
func look(t *testing.T, r source, p api.Pools, m *model) {
	t.Helper()
	vars, e := pool.Vars(p)
	want := m.vars()
	if e != api.OK || !slices.Equal(names(vars), slices.Sorted(maps.Keys(want))) {
		t.Fatalf("Vars of %v: %v", p, vars)
	}
	for _, x := range vars {
		if want[x.Name] != x.Value {
			t.Fatalf("Vars of %v: %v", p, vars)
		}
	}
	name, symbol := r.name(), r.symbol()
	if k, e := pool.Home(p, name); e != api.OK || k != m.home(len(m.vals)-1, name) {
		t.Fatalf("Home of %s in %v: %d, %v", name, p, k, e)
	}
	wantValue, wantIs := m.top(name)[name]
	if v, is, e := pool.Get(p, name); e != api.OK || v != wantValue || is != wantIs {
		t.Fatalf("Get of %s in %v: %q, %v, %v", name, p, v, is, e)
	}
	wantName, wantCode := m.derive(symbol)
	if n, code, e := pool.Derive(p, symbol); n != wantName || code != wantCode || (e == api.OK) != (code == 0) {
		t.Fatalf("Derive of %s in %v: %q, %d, %v", symbol, p, n, code, e)
	}
	wantValue, wantIs, wantCode = m.value(symbol)
	if v, is, code, e := pool.Value(p, symbol); v != wantValue || is != wantIs || code != wantCode || (e == api.OK) != (code == 0) {
		t.Fatalf("Value of %s in %v: %q, %v, %d, %v", symbol, p, v, is, code, e)
	}
}

// seen returns what is seen of a stack.
func seen(t *testing.T, p api.Pools) map[string]string {
	t.Helper()
	l, e := pool.Vars(p)
	if e != api.OK {
		t.Fatal(e)
	}
	values := map[string]string{}
	for _, x := range l {
		values[x.Name] = x.Value
	}
	return values
}

// isDerived reports whether a name is a derived name of a stem.
func isDerived(name, stem string) bool {
	return strings.Count(stem, ".") == 1 && strings.HasSuffix(stem, ".") && strings.HasPrefix(name, stem) && name != stem
}

// P6.11, P6.12: what Set and Drop change, and what not.
func TestSetAndDrop(t *testing.T) {
	r := newSource(611)
	for range 4000 {
		p, name, value := r.stack(), r.name(), r.value()
		want := seen(t, p)
		_, had := want[name]
		loses := false
		for other := range want {
			if isDerived(other, name) {
				loses = true
				delete(want, other)
			}
		}
		delete(want, name)
		dropped, e := pool.Drop(p, name)
		if e != api.OK || !maps.Equal(seen(t, dropped), want) {
			t.Fatalf("Drop of %s in %v: %v, %v", name, p, dropped, e)
		}
		if _, is, _ := pool.Get(dropped, name); is {
			t.Fatalf("Drop of %s in %v", name, p)
		}
		q := set(t, p, name, value)
		want[name] = value
		if v, is, _ := pool.Get(q, name); v != value || !is || !maps.Equal(seen(t, q), want) {
			t.Fatalf("Set of %s in %v: %v", name, p, q)
		}
		if again := set(t, set(t, p, name, r.value()), name, value); !equal(again, q) {
			t.Fatalf("Set of %s twice in %v: %v, not %v", name, p, again, q)
		}
		if undone, _ := pool.Drop(q, name); !had && !loses && !equal(undone, p) {
			t.Fatalf("Drop after Set of %s in %v: %v", name, p, undone)
		}
	}
}

// P6.13.
func TestSharing(t *testing.T) {
	r := newSource(613)
	for range 4000 {
		p, l, name, value := r.stack(), r.list(true), r.name(), r.value()
		q, _, _, e := pool.Expose(p, l)
		if e != api.OK {
			continue
		}
		home, _ := pool.Home(q, name)
		isNew := home == len(p.Levels)
		if _, is, _ := pool.Get(q, name); isNew && is {
			t.Fatalf("a new level has a value of %s: %v", name, q)
		}
		after := back(t, set(t, q, name, value))
		if isNew && !isDerived(name+"x", name) && !equal(after, p) {
			t.Fatalf("Set of %s in the new level of %v changes what is below", name, q)
		}
		if v, is, _ := pool.Get(after, name); !isNew && (v != value || !is) {
			t.Fatalf("Set of %s in %v is not visible after Return: %q", name, q, v)
		}
	}
}

// P6.14: other values do not matter, and neither do other symbols with the same values.
func TestDerivedNames(t *testing.T) {
	r := newSource(614)
	for range 4000 {
		p, symbol, other := r.stack(), r.symbol(), r.name()
		name, code, _ := pool.Derive(p, symbol)
		parts := strings.Split(symbol, ".")[1:]
		if slices.Contains(parts, other) {
			continue
		}
		if again, c, _ := pool.Derive(set(t, p, other, r.value()), symbol); again != name || c != code {
			t.Fatalf("Set of %s changes Derive of %s: %q, %q", other, symbol, name, again)
		}
		if value, is, _ := pool.Get(p, parts0(parts)); is {
			q := set(t, p, "TWIN", value)
			twin := strings.Replace(symbol, "."+parts[0], ".TWIN", 1)
			if again, c, _ := pool.Derive(q, twin); again != name || c != code {
				t.Fatalf("Derive of %s and %s: %q, %q", symbol, twin, name, again)
			}
		}
	}
}

// parts0 returns the first part of a tail, if there is one.
func parts0(parts []string) string {
	if len(parts) == 0 {
		return ""
	}
	return parts[0]
}

// P6.15.
func TestOrder(t *testing.T) {
	r := newSource(615)
	for range 4000 {
		p, a, b, x, y := r.stack(), r.name(), r.name(), r.value(), r.value()
		if a != b && !isDerived(a, b) && !isDerived(b, a) {
			if one, two := set(t, p, a, x, b, y), set(t, p, b, y, a, x); !equal(one, two) {
				t.Fatalf("Set of %s and %s in %v", a, b, p)
			}
		}
		l := slices.DeleteFunc(r.list(false), func(x api.Item) bool { return strings.Contains(strings.TrimSuffix(x.Name, "."), ".") })
		first, _, _, e := pool.Expose(p, l)
		r.Shuffle(len(l), func(i, j int) { l[i], l[j] = l[j], l[i] })
		if second, _, _, again := pool.Expose(p, l); e != again || !equal(first, second) {
			t.Fatalf("Expose %v in another order: %v, %v", l, first, second)
		}
	}
}

// P6.16.
func TestViews(t *testing.T) {
	r := newSource(616)
	for range 4000 {
		p := r.stack()
		q := p
		for range r.Intn(3) {
			q = r.step(q)
		}
		a, b := seen(t, p), seen(t, q)
		for range 5 {
			name := r.name()
			v, is, _ := pool.Get(p, name)
			if w, has := a[name]; v != w || is != has {
				t.Fatalf("Vars of %v and Get of %s: %q", p, name, v)
			}
		}
		var want []string
		for _, name := range slices.Compact(slices.Sorted(slices.Values(append(slices.Collect(maps.Keys(a)), slices.Collect(maps.Keys(b))...)))) {
			v, is := a[name]
			if w, has := b[name]; v != w || is != has {
				want = append(want, name)
			}
		}
		for _, pair := range [][2]api.Pools{{p, q}, {q, p}} {
			if l, e := pool.Diff(pair[0], pair[1]); e != api.OK || !slices.Equal(l, want) {
				t.Fatalf("Diff of %v: %q, %v; want %q", pair, l, e, want)
			}
		}
		if e := pool.Check(q); e != api.OK {
			t.Fatalf("%v: %v", q, e)
		}
	}
}

// blocks returns where the slices in a value are in memory, with all their room.
func blocks(v reflect.Value) [][2]uintptr {
	var list [][2]uintptr
	switch v.Kind() {
	case reflect.Slice:
		if size := uintptr(v.Cap()) * v.Type().Elem().Size(); size > 0 {
			list = append(list, [2]uintptr{v.Pointer(), v.Pointer() + size})
		}
		for k := range v.Len() {
			list = append(list, blocks(v.Index(k))...)
		}
	case reflect.Struct:
		for k := range v.NumField() {
			list = append(list, blocks(v.Field(k))...)
		}
	}
	return list
}

// G6, for P6.3 to P6.10: arguments are not changed, and results are new memory.
func TestMemory(t *testing.T) {
	r := newSource(66)
	for range 2000 {
		p, l, name := r.stack(), r.list(true), r.name()
		if len(p.Levels) == 1 {
			p = set(t, expose(t, set(t, p, name, r.value()), "I A."), r.name(), r.value())
		}
		values := []any{p, pool.New(), pool.New()}
		results := func(list ...any) { values = append(values, list...) }
		keep, keepItems := clone(p), slices.Clone(l)
		results(pool.Set(p, name, "1"))
		results(pool.Drop(p, name))
		results(pool.Return(p))
		results(pool.Expose(p, l))
		results(pool.DropAll(p, l))
		results(pool.Vars(p))
		results(pool.Diff(p, pool.New()))
		var list [][2]uintptr
		for _, x := range values {
			list = append(list, blocks(reflect.ValueOf(x))...)
		}
		slices.SortFunc(list, func(a, b [2]uintptr) int { return cmp.Compare(a[0], b[0]) })
		for k := range len(list) - 1 {
			if list[k][1] > list[k+1][0] {
				t.Fatalf("memory is shared: %v, %v, %s", p, l, name)
			}
		}
		if !equal(p, keep) || !slices.Equal(l, keepItems) {
			t.Fatalf("%v and %v were changed: %v, %v", keep, keepItems, p, l)
		}
	}
}
