package cut_test

import (
	"regexp"
	"slices"
	"strconv"
	"strings"
	"testing"

	"qanat/api"
	"qanat/cut"
)

// model applies a template as the chapter tells it, part after part: it waits with targets until it meets what ends their piece.
type model struct {
	t        []api.Part
	given    []api.Pair
	assigned []api.Pair // in their order, with repetitions
	pieces   []api.Piece
	unset    []string
	waiting  []int
	code     int
}

// value returns the value of a variable: the last one that was assigned, or the one that was given, or the name.
func (m *model) value(name string) string {
	for k := len(m.assigned) - 1; k >= 0; k-- {
		if m.assigned[k].Name == name {
			return m.assigned[k].Value
		}
	}
	for _, pair := range m.given {
		if pair.Name == name {
			return pair.Value
		}
	}
	m.unset = append(m.unset, name)
	return name
}

// aWord is a word at the beginning of a text, and the blank behind it.
var aWord = regexp.MustCompile(`^( *)([^ ]*)( ?)`)

// give divides a piece among the targets that wait.
func (m *model) give(s string, str, from, to int) {
	for len(m.waiting) > 0 {
		part := m.waiting[0]
		m.waiting = m.waiting[1:]
		begin, end, next := from, to, to
		if len(m.waiting) > 0 {
			word := aWord.FindStringSubmatch(s[from:to])
			begin += len(word[1])
			end = begin + len(word[2])
			next = end + len(word[3])
		}
		m.pieces = append(m.pieces, api.Piece{Part: part, Str: str, From: begin, To: end, Value: s[begin:end]})
		if m.t[part].Kind == api.TpVar {
			m.assigned = append(m.assigned, api.Pair{Name: m.t[part].Text, Value: s[begin:end]})
		}
		from = next
	}
}

// aColumn is the value of a column.
var aColumn = regexp.MustCompile(`^[0-9]{1,9}$`)

// relativeNext is the kinds of the rest of a section whose next pattern is a relative column, as bytes.
var relativeNext = regexp.MustCompile(`^[\x01\x02]*[\x06\x07\x09\x0a]`)

// isKept reports whether the next piece begins where a literal begins.
func (m *model) isKept(rest []api.Part) bool {
	var kinds []byte
	for _, p := range rest {
		kinds = append(kinds, byte(p.Kind))
	}
	return relativeNext.Match(kinds)
}

// section applies the parts from index k on to a string, up to a comma or the end; it returns the index there.
func (m *model) section(k int, s string, str int) int {
	start, base := 0, 0
	for ; k < len(m.t) && m.t[k].Kind != api.TpComma; k++ {
		p := m.t[k]
		text, n, sign := p.Text, p.N, 0
		switch p.Kind {
		case api.TpVar, api.TpDot:
			m.waiting = append(m.waiting, k)
			continue
		case api.TpLitVar, api.TpAbsVar, api.TpPlusVar, api.TpMinusVar:
			text = m.value(p.Text)
			n, _ = strconv.Atoi(text)
		}
		switch p.Kind {
		case api.TpLit, api.TpLitVar:
			before, _, found := strings.Cut(s[start:], text)
			if !found || text == "" {
				m.give(s, str, start, len(s))
				start, base = len(s), len(s)
				continue
			}
			m.give(s, str, start, start+len(before))
			base = start + len(before)
			start = base
			if !m.isKept(m.t[k+1:]) {
				start += len(text)
			}
			continue
		case api.TpAbs, api.TpAbsVar:
			n--
			base, sign = 0, 1
		case api.TpPlus, api.TpPlusVar:
			sign = 1
		case api.TpMinus, api.TpMinusVar:
			sign = -1
		}
		if p.Text != "" && !aColumn.MatchString(text) {
			m.code = 26
			return len(m.t)
		}
		column := base + sign*n
		if column > len(s) {
			column = len(s)
		}
		if column < 0 {
			column = 0
		}
		if column > start {
			m.give(s, str, start, column)
		} else {
			m.give(s, str, start, len(s))
		}
		start, base = column, column
	}
	m.give(s, str, start, len(s))
	return k
}

// modelOf applies a template to strings.
func modelOf(t []api.Part, strs []string, vars []api.Pair) *model {
	m := &model{t: t, given: vars}
	for k, section := 0, 0; k <= len(t) && m.code == 0; section++ {
		if section < len(strs) {
			k = m.section(k, strs[section], section)
		} else {
			k = m.section(k, "", -1)
		}
		k++
	}
	return m
}

// after returns the variables after the template. (It evaluates no pattern: the names are those of variables with values.)
func (m *model) after() []api.Pair {
	var list []api.Pair
	for _, pair := range slices.Concat(m.given, m.assigned) {
		if !slices.ContainsFunc(list, func(x api.Pair) bool { return x.Name == pair.Name }) {
			list = append(list, api.Pair{Name: pair.Name, Value: m.value(pair.Name)})
		}
	}
	return list
}

// P7.2 to P7.4, P7.15, against the model.
func TestModel(t *testing.T) {
	r := newSource(72)
	codes, unsets := map[int]int{}, 0
	for range 100000 {
		template, strs, vars := r.template(), r.strings(), r.vars()
		m := modelOf(template, strs, vars)
		l, code, e := cut.Cut(template, strs, vars)
		if e != api.OK || code != m.code || !slices.Equal(l, m.pieces) {
			t.Fatalf("Cut of %v, %q, %q: %v, %d, %v; want %v, %d", template, strs, vars, l, code, e, m.pieces, m.code)
		}
		if l, e := cut.Unset(template, strs, vars); e != api.OK || !slices.Equal(l, m.unset) {
			t.Fatalf("Unset of %v, %q, %q: %q, %v; want %q", template, strs, vars, l, e, m.unset)
		}
		unsets += len(m.unset)
		if l, e := cut.After(template, strs, vars); e != api.OK || !slices.Equal(l, m.after()) {
			t.Fatalf("After of %v, %q, %q: %q, %v; want %q", template, strs, vars, l, e, m.after())
		}
		if e := cut.CheckCut(template, strs, vars, m.pieces); e != api.OK {
			t.Fatalf("CheckCut of %v, %q, %q: %v", template, strs, vars, e)
		}
		codes[code]++
	}
	if codes[0] < 10000 || codes[26] < 10000 || unsets < 10000 {
		t.Error("too few of a kind:", codes, unsets)
	}
}

// P7.6, against all bytes: what is covered is marked, and what is joined is put together at each offset.
func TestJoinModel(t *testing.T) {
	r := newSource(76)
	counts := map[api.Errno]int{}
	for range 50000 {
		strs := []string{r.text(), r.text()}[r.Intn(2):]
		var l []api.Piece
		for range r.Intn(7) {
			str := r.Intn(len(strs))
			from := r.Intn(len(strs[str]) + 1)
			to := from + r.Intn(len(strs[str])-from+1)
			if r.Intn(3) == 0 {
				to = from
			}
			l = append(l, api.Piece{Part: r.Intn(9), Str: str, From: from, To: to, Value: r.one("", "x", "yz", strs[str][from:to])})
		}
		str := r.Intn(len(strs))
		covers := make([]int, len(strs[str]))
		want := ""
		for k := range len(strs[str]) + 1 {
			for _, isEmpty := range []bool{true, false} {
				for _, p := range l {
					if p.Str == str && p.From == k && (p.To == k) == isEmpty {
						want += p.Value
						for j := k; j < p.To; j++ {
							covers[j]++
						}
					}
				}
			}
			if k < len(strs[str]) && covers[k] == 0 {
				want += strs[str][k : k+1]
			}
		}
		wantError := api.OK
		if slices.ContainsFunc(covers, func(n int) bool { return n > 1 }) {
			want, wantError = "", api.ErrTwice
		}
		counts[wantError]++
		if s, e := cut.Join(strs, l, str); e != wantError || s != want {
			t.Fatalf("Join of %q, %v, %d: %q, %v; want %q", strs, l, str, s, e, want)
		}
		var left [][2]int
		for k, n := range covers {
			switch {
			case n > 0:
			case k > 0 && covers[k-1] == 0:
				left[len(left)-1][1] = k + 1
			default:
				left = append(left, [2]int{k, k + 1})
			}
		}
		if got, e := cut.Left(strs, l, str); e != api.OK || !slices.Equal(got, left) {
			t.Fatalf("Left of %q, %v, %d: %v, %v; want %v", strs, l, str, got, e, left)
		}
	}
	if counts[api.OK] < 5000 || counts[api.ErrTwice] < 5000 {
		t.Error("too few of a kind:", counts)
	}
}
