package cut_test

import (
	"cmp"
	"reflect"
	"slices"
	"strings"
	"testing"

	"qanat/api"
	"qanat/cut"
)

// P7.9.
func TestPieces(t *testing.T) {
	r := newSource(79)
	for range 20000 {
		template, strs, vars := r.template(), r.strings(), r.vars()
		l, _, _ := cut.Cut(template, strs, vars)
		for _, p := range l {
			isWord := p.Part+1 < len(template) && isTarget(template[p.Part+1])
			if isWord && strings.Contains(p.Value, " ") || p.Str >= 0 && p.Value != strs[p.Str][p.From:p.To] {
				t.Fatalf("%v of %q: %v", template, strs, p)
			}
			if p.Str < 0 && p != (api.Piece{Part: p.Part, Str: -1}) {
				t.Fatalf("%v of %q: %v", template, strs, p)
			}
		}
	}
}

// overlaps reports whether two pieces of a string cover the same byte.
func overlaps(l []api.Piece, str int) bool {
	for k, a := range l {
		for _, b := range l[:k] {
			if a.Str == str && b.Str == str && max(a.From, b.From) < min(a.To, b.To) {
				return true
			}
		}
	}
	return false
}

// P7.10.
func TestReassembly(t *testing.T) {
	r := newSource(710)
	for range 20000 {
		template, strs, vars := r.template(), r.strings(), r.vars()
		if r.Intn(2) == 0 {
			template = slices.DeleteFunc(template, isColumn)
		}
		l, _, _ := cut.Cut(template, strs, vars)
		for k, s := range strs {
			bad := overlaps(l, k)
			if bad && !slices.ContainsFunc(template, isColumn) {
				t.Fatalf("%v of %q: %v", template, strs, l)
			}
			got, e := cut.Join(strs, l, k)
			if !bad && (e != api.OK || got != s) || bad && e != api.ErrTwice {
				t.Fatalf("%v of %q: Join of %v: %q, %v", template, strs, l, got, e)
			}
		}
	}
}

// P7.11.
func TestLiteralLaw(t *testing.T) {
	r := newSource(711)
	for range 20000 {
		s, p := r.text(), r.one("a", "b", "1", "ab", " ", "'", "a ", "  ", "bb", r.text()+"a")
		x, y, found := strings.Cut(s, p)
		if !found {
			x, y = s, ""
		}
		lit := []api.Part{{Kind: api.TpVar, Text: "X"}, {Kind: api.TpLit, Text: p}, {Kind: api.TpVar, Text: "Y"}}
		if got := values(cutUp(t, lit, []string{s}, nil)); !slices.Equal(got, []string{x, y}) {
			t.Fatalf("%q in %q: %q", p, s, got)
		}
		if got := values(cutUp(t, tmpl("X (P) Y"), []string{s}, pairs("P", p))); !slices.Equal(got, []string{x, y}) {
			t.Fatalf("%q in %q: %q", p, s, got)
		}
	}
}

// P7.12.
func TestColumnLaw(t *testing.T) {
	r := newSource(712)
	for range 3000 {
		s := r.text()
		for n := range len(s) + 1 {
			x, y := s[:n], s[n:]
			if n == 0 {
				x = s
			}
			absolute := []api.Part{{Kind: api.TpVar, Text: "X"}, {Kind: api.TpAbs, N: n + 1}, {Kind: api.TpVar, Text: "Y"}}
			if got := values(cutUp(t, absolute, []string{s}, nil)); !slices.Equal(got, []string{x, y}) {
				t.Fatalf("%v of %q: %q", absolute, s, got)
			}
			relative := []api.Part{{Kind: api.TpVar, Text: "X"}, {Kind: api.TpPlus, N: n}, {Kind: api.TpVar, Text: "Y"}}
			if got := values(cutUp(t, relative, []string{s}, nil)); !slices.Equal(got, []string{x, y}) {
				t.Fatalf("%v of %q: %q", relative, s, got)
			}
		}
	}
}

// P7.13.
func TestSectionLaw(t *testing.T) {
	r := newSource(713)
	for range 20000 {
		template, strs, vars := r.template(), r.strings(), r.vars()
		want, wantCode, _ := cut.Cut(template, strs, vars)
		wantVars, _ := cut.After(template, strs, vars)
		wantUnset, _ := cut.Unset(template, strs, vars)
		var got []api.Piece
		var unset []string
		code, first := 0, 0
		for section := 0; first <= len(template) && code == 0; section++ {
			end := first + slices.Index(append(slices.Clone(template[first:]), api.Part{Kind: api.TpComma}), api.Part{Kind: api.TpComma})
			one := strs[min(section, len(strs)):min(section+1, len(strs))]
			var l []api.Piece
			l, code, _ = cut.Cut(template[first:end], one, vars)
			for _, p := range l {
				p.Part += first
				if p.Str == 0 {
					p.Str = section
				}
				got = append(got, p)
			}
			names, _ := cut.Unset(template[first:end], one, vars)
			unset = append(unset, names...)
			vars, _ = cut.After(template[first:end], one, vars)
			first = end + 1
		}
		if !slices.Equal(got, want) || code != wantCode || !slices.Equal(vars, wantVars) || !slices.Equal(unset, wantUnset) {
			t.Fatalf("%v of %q: %v, %d, %q; section after section: %v, %d, %q", template, strs, want, wantCode, wantVars, got, code, vars)
		}
	}
}

// P7.14.
func TestWordLaw(t *testing.T) {
	r := newSource(714)
	for range 20000 {
		s, n := r.text(), 1+r.Intn(9)
		l, e := cut.Words(s, n)
		if e != api.OK || len(l) != n || !slices.Equal(strings.Fields(strings.Join(l, " ")), strings.Fields(s)) {
			t.Fatalf("Words of %q, %d: %q, %v", s, n, l, e)
		}
		spans, e := cut.Spans(s, n)
		if e != api.OK || len(spans) != n {
			t.Fatalf("Spans of %q, %d: %v, %v", s, n, spans, e)
		}
		for k, span := range spans {
			if s[span[0]:span[1]] != l[k] {
				t.Fatalf("Spans of %q, %d: %v; Words: %q", s, n, spans, l)
			}
		}
		targets := slices.Repeat([]api.Part{{Kind: api.TpDot}}, n)
		if got := values(cutUp(t, targets, []string{s}, nil)); !slices.Equal(got, l) {
			t.Fatalf("Words of %q, %d: %q; Cut: %q", s, n, l, got)
		}
		if n == 1 {
			continue
		}
		two, _ := cut.Words(s, 2)
		rest, e := cut.Words(two[1], n-1)
		if e != api.OK || !slices.Equal(rest, l[1:]) {
			t.Fatalf("Words of %q, %d: %q, not %q", two[1], n-1, rest, l[1:])
		}
	}
}

// changed returns other pieces, with one change.
func (r source) changed(l []api.Piece) []api.Piece {
	other := slices.Clone(l)
	if len(other) == 0 {
		return []api.Piece{{}}
	}
	k := r.Intn(len(other))
	p := &other[k]
	switch r.Intn(7) {
	case 0:
		p.Part += 1 - 2*r.Intn(2)
	case 1:
		p.Str += 1 - 2*r.Intn(2)
	case 2:
		p.From += 1 - 2*r.Intn(2)
	case 3:
		p.To += 1 - 2*r.Intn(2)
	case 4:
		p.Value += "a"
	case 5:
		return slices.Delete(other, k, k+1)
	case 6:
		return slices.Insert(other, k, *p)
	}
	return other
}

// P7.15.
func TestCheckLaw(t *testing.T) {
	r := newSource(715)
	for range 20000 {
		template, strs, vars := r.template(), r.strings(), r.vars()
		l, code, e := cut.Cut(template, strs, vars)
		if e != api.OK || code != 0 && code != 26 || cut.CheckCut(template, strs, vars, l) != api.OK {
			t.Fatalf("%v of %q, %q: %v, %d, %v", template, strs, vars, l, code, e)
		}
		if other := r.changed(l); cut.CheckCut(template, strs, vars, other) != api.ErrProof {
			t.Fatalf("%v of %q, %q: %v is accepted, not only %v", template, strs, vars, other, l)
		}
		last := map[string]string{}
		for _, p := range l {
			if template[p.Part].Kind == api.TpVar {
				last[template[p.Part].Text] = p.Value
			}
		}
		after, _ := cut.After(template, strs, vars)
		count := 0
		for k, pair := range after {
			want, is := last[pair.Name]
			if !is {
				want = vars[k].Value
			}
			if is {
				count++
			}
			if pair.Value != want || k < len(vars) && pair.Name != vars[k].Name {
				t.Fatalf("%v of %q, %q: %q", template, strs, vars, after)
			}
		}
		if count != len(last) || len(after) < len(vars) {
			t.Fatalf("%v of %q, %q: %q", template, strs, vars, after)
		}
	}
}

// block returns where a slice is in memory, with all its room.
func block(list any) [2]uintptr {
	v := reflect.ValueOf(list)
	return [2]uintptr{v.Pointer(), v.Pointer() + uintptr(v.Cap())*v.Type().Elem().Size()}
}

// G6: arguments are not changed, and results are new memory.
func TestMemory(t *testing.T) {
	r := newSource(76)
	for range 20000 {
		template, strs, vars := r.template(), append(r.strings(), r.text()), r.vars()
		oldTemplate, oldStrs, oldVars := slices.Clone(template), slices.Clone(strs), slices.Clone(vars)
		pieces, _, _ := cut.Cut(template, strs, vars)
		r.Shuffle(len(pieces), func(i, j int) { pieces[i], pieces[j] = pieces[j], pieces[i] })
		oldPieces := slices.Clone(pieces)
		again, _, _ := cut.Cut(template, strs, vars)
		cut.CheckCut(template, strs, vars, pieces)
		unset, _ := cut.Unset(template, strs, vars)
		after, _ := cut.After(template, strs, vars)
		left, _ := cut.Left(strs, pieces, 0)
		cut.Join(strs, pieces, 0)
		targets, _ := cut.Targets(template)
		cut.Text(template)
		if !slices.Equal(template, oldTemplate) || !slices.Equal(strs, oldStrs) || !slices.Equal(vars, oldVars) || !slices.Equal(pieces, oldPieces) {
			t.Fatalf("%v, %q, %q, %v was changed", oldTemplate, oldStrs, oldVars, oldPieces)
		}
		var blocks [][2]uintptr
		for _, list := range []any{template, strs, vars, pieces, again, unset, after, left, targets} {
			if x := block(list); x[0] < x[1] {
				blocks = append(blocks, x)
			}
		}
		slices.SortFunc(blocks, func(a, b [2]uintptr) int { return cmp.Compare(a[0], b[0]) })
		for k := 1; k < len(blocks); k++ {
			if blocks[k-1][1] > blocks[k][0] {
				t.Fatalf("memory is shared: %v, %q, %q", template, strs, vars)
			}
		}
	}
}

// wild returns a text that need not be a string, a symbol or a literal.
func (r source) wild() string {
	return r.one("", "A", "a", "A.", "A.b", ".", "1", "x\x00", "\xff", "'", strings.Repeat("A", 41), strings.Repeat("~", 1001), r.text())
}

// number returns a number that need not be in a range.
func (r source) number() int {
	return []int{0, 0, 0, 1, -1, 2, 11, 12, 100, 101, api.MaxColumn, api.MaxColumn + 1, 1<<63 - 1, -1 << 63}[r.Intn(14)]
}

// G1, G4: all arguments of their types have a result; with an error all else is zero.
func TestWildArguments(t *testing.T) {
	r := newSource(71)
	counts := map[api.Errno]int{}
	for range 50000 {
		template, strs, vars := r.template(), r.strings(), r.vars()
		pieces, _, _ := cut.Cut(template, strs, vars)
		if k := r.Intn(3 * (len(template) + 1)); k < len(template) {
			template[k] = api.Part{Kind: r.Intn(14) - 1, Text: r.wild(), N: r.number()}
		}
		if k := r.Intn(3 * (len(strs) + 1)); k < len(strs) {
			strs[k] = r.wild()
		}
		if k := r.Intn(3 * (len(vars) + 1)); k < len(vars) {
			vars[k] = api.Pair{Name: r.wild(), Value: r.wild()}
		}
		if k := r.Intn(2 * (len(pieces) + 1)); k < len(pieces) {
			pieces[k] = api.Piece{Part: r.number(), Str: r.number(), From: r.number(), To: r.number(), Value: r.wild()}
		}
		if len(strs) > 0 && r.Intn(9) == 0 {
			strs = slices.Repeat(strs, 21)
		}
		l, code, e := cut.Cut(template, strs, vars)
		unset, e1 := cut.Unset(template, strs, vars)
		after, e2 := cut.After(template, strs, vars)
		e3 := cut.CheckCut(template, strs, vars, l)
		if e1 != e || e2 != e || e3 != e || e != api.OK && (l != nil || code != 0 || unset != nil || after != nil) {
			t.Fatal(template, strs, vars, e, e1, e2, e3)
		}
		counts[e]++
		str, n, s := r.number(), r.number(), r.wild()
		if left, e := cut.Left(strs, pieces, str); e != api.OK && left != nil {
			t.Fatal(left, e)
		}
		if joined, e := cut.Join(strs, pieces, str); e != api.OK && joined != "" {
			t.Fatal(joined, e)
		}
		words, e1 := cut.Words(s, n)
		spans, e2 := cut.Spans(s, n)
		if e1 != e2 || e1 != api.OK && (words != nil || spans != nil) {
			t.Fatal(s, n, words, spans, e1, e2)
		}
		cut.Upper(s)
		testTemplateError(t, template, cut.Check(template))
	}
	for _, e := range []api.Errno{api.OK, api.ErrArg, api.ErrForm, api.ErrLimit, api.ErrName, api.ErrTwice} {
		if counts[e] < 100 {
			t.Errorf("error %v: only %d times", e, counts[e])
		}
	}
}
