package text_test

import (
	"slices"
	"strings"
	"testing"

	"qanat/api"
	"qanat/text"
)

// must returns a result and fails the test if there is an error.
func must[T any](t *testing.T) func(x T, e api.Errno) T {
	return func(x T, e api.Errno) T {
		t.Helper()
		if e != api.OK {
			t.Fatalf("error %v", e)
		}
		return x
	}
}

// P2.14.
func TestParts(t *testing.T) {
	r, str := newSource(214), must[string](t)
	for range 2000 {
		s := r.any(14)
		for k := 1; k <= len(s); k++ {
			if str(text.Left(s, k, '.'))+str(text.Substr(s, k+1, api.Missing, '.')) != s {
				t.Fatalf("Left and Substr of %q, %d", s, k)
			}
			if str(text.Left(str(text.Reverse(s)), k, '.')) != str(text.Reverse(str(text.Right(s, k, '.')))) {
				t.Fatalf("Left of Reverse of %q, %d", s, k)
			}
			for m := 0; k+m-1 <= len(s); m++ {
				cut := str(text.DelStr(s, k, m))
				if str(text.Insert(str(text.Substr(s, k, m, '.')), cut, k-1, api.Missing, '.')) != s {
					t.Fatalf("DelStr and Insert of %q, %d, %d", s, k, m)
				}
			}
		}
		if str(text.Reverse(str(text.Reverse(s)))) != s {
			t.Fatalf("Reverse of %q", s)
		}
		k := r.Intn(25)
		if str(text.Left(str(text.Reverse(s)), k, '.')) != str(text.Reverse(str(text.Right(s, k, '.')))) {
			t.Fatalf("Left of Reverse of %q, %d", s, k)
		}
	}
}

// P2.15.
func TestOccurrences(t *testing.T) {
	r, str, num := newSource(215), must[string](t), must[int](t)
	for range 5000 {
		s, part, with := r.text("ab", 14), r.text("ab", 3), r.any(4)
		start := 1 + r.Intn(6)
		p := num(text.Pos(part, s, start))
		for at := start; part != "" && at <= len(s) && (p == 0 || at <= p); at++ {
			if strings.HasPrefix(s[at-1:], part) != (at == p) {
				t.Fatalf("Pos of %q in %q from %d: %d", part, s, start, p)
			}
		}
		back := num(text.Pos(str(text.Reverse(part)), str(text.Reverse(s)), 1))
		want := 0
		if back != 0 {
			want = len(s) - len(part) + 2 - back
		}
		if last := num(text.LastPos(part, s, api.Missing)); last != want {
			t.Fatalf("LastPos of %q in %q: %d", part, s, last)
		}
		if str(text.Change(part, s, part)) != s {
			t.Fatalf("Change of %q in %q to itself", part, s)
		}
		changed := str(text.Change(part, s, with))
		if len(changed) != len(s)+num(text.Count(part, s))*(len(with)-len(part)) {
			t.Fatalf("Change of %q in %q to %q: %q", part, s, with, changed)
		}
	}
}

// P2.16.
func TestWordLaws(t *testing.T) {
	r, str, num := newSource(216), must[string](t), must[int](t)
	for range 3000 {
		s := r.text("ab  ", 16)
		spaced := str(text.Space(s, 1, ' '))
		if !slices.Equal(strings.Fields(spaced), strings.Fields(s)) || str(text.Space(spaced, 1, ' ')) != spaced {
			t.Fatalf("Space of %q: %q", s, spaced)
		}
		n, m := 1+r.Intn(7), r.missingOr(0, 7)
		sub, rest := str(text.Subword(s, n, m)), str(text.DelWord(s, n, m))
		list := append(strings.Fields(sub), strings.Fields(rest)...)
		all := strings.Fields(s)
		slices.Sort(list)
		slices.Sort(all)
		if !slices.Equal(list, all) {
			t.Fatalf("Subword and DelWord of %q, %d, %d: %q, %q", s, n, m, sub, rest)
		}
		if sub != "" && num(text.WordPos(sub, s, n)) != n {
			t.Fatalf("WordPos of %q in %q", sub, s)
		}
	}
}

// P2.17.
func TestConversionLaws(t *testing.T) {
	r, str := newSource(217), must[string](t)
	for range 3000 {
		s := r.any(30)
		if str(text.X2C(str(text.C2X(s)))) != s {
			t.Fatalf("C2X of %q", s)
		}
		x := r.text("0123456789abcdefABCDEF", 5)
		for range r.Intn(4) {
			if x != "" {
				x += strings.Repeat(" ", 1+r.Intn(2)) + strings.Repeat("7c", 1+r.Intn(2))
			}
		}
		if str(text.B2X(str(text.X2B(x)))) != strings.ToUpper(strings.ReplaceAll(x, " ", "")) {
			t.Fatalf("X2B of %q", x)
		}
		b := r.text(" !\"#$%", len(s))
		if first, e := text.BitXor(s, b, api.Missing); e == api.OK {
			if str(text.BitXor(first, b, api.Missing)) != s {
				t.Fatalf("BitXor of %q, %q: %q", s, b, first)
			}
		}
		in := []byte(allBytes())[r.Intn(50):]
		in = in[:r.Intn(len(in))]
		out := slices.Clone(in)
		r.Shuffle(len(out), func(i, j int) { out[i], out[j] = out[j], out[i] })
		there := str(text.Translate(s, string(out), string(in), '.'))
		if str(text.Translate(there, string(in), string(out), '.')) != s {
			t.Fatalf("Translate of %q, %q, %q", s, out, in)
		}
	}
}
