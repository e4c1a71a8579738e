package scan_test

import (
	"regexp"
	"slices"
	"strings"
	"testing"

	"qanat/api"
	"qanat/scan"
)

// leftOut is what is between tokens, without comments: a comma is left out only before the end of a line, or of the source.
var leftOut = regexp.MustCompile(`^(?:[ \n;]|,[ ,]*(?:\n|\z))*\z`)

// P3.12: tokens do not overlap, and nothing is lost between them.
func TestCoverage(t *testing.T) {
	r := newSource(312)
	for range 30000 {
		src := r.sound(14)
		from, last := 0, api.Token{}
		for _, x := range append(must(t, src), api.Token{At: len(src), To: len(src)}) {
			if x.At < from || x.To < x.At || x.Kind != 0 && x.Kind != api.TkEnd && x.To == x.At {
				t.Fatalf("the tokens of %q overlap at %d", src, x.At)
			}
			if between := uncommented(src[from:x.At]); !leftOut.MatchString(between) {
				t.Fatalf("between the tokens of %q: %q", src, between)
			}
			if x.Kind == api.TkEnd && x.To > x.At && src[x.At:x.To] != ";" && src[x.At:x.To] != "\n" {
				t.Fatalf("an end of %q: %q", src, src[x.At:x.To])
			}
			if x.Kind == api.TkEnd && x.To == x.At && x.At < len(src) && last.Text != ":" {
				t.Fatalf("an end of %q at %d", src, x.At)
			}
			from, last = x.To, x
		}
	}
}

// P3.13.
func TestLocality(t *testing.T) {
	r := newSource(313)
	for range 20000 {
		first, second := r.sound(9), r.sound(9)
		if _, _, _, continued := oracle(first); continued {
			continue
		}
		want := must(t, first)
		if n := len(want); n > 0 && want[n-1].At == want[n-1].To && !endsWithLabel(want) {
			want[n-1].To++
		}
		lines := strings.Count(first, "\n") + 1
		for _, x := range must(t, second) {
			x.At += len(first) + 1
			x.To += len(first) + 1
			x.Line += lines
			want = append(want, x)
		}
		if got := must(t, first+"\n"+second); !slices.Equal(got, want) {
			t.Fatalf("Tokens of %q and %q: %v; want %v", first, second, got, want)
		}
	}
}

// endsWithLabel reports whether the last clause of tokens is a label.
func endsWithLabel(tokens []api.Token) bool {
	n := len(tokens)
	return n >= 3 && tokens[n-2].Kind == api.TkSign && tokens[n-2].Text == ":" && tokens[n-3].Kind == api.TkSymbol && (n == 3 || tokens[n-4].Kind == api.TkEnd)
}

// swapped returns s with small letters for capital ones, or the other way around, at random.
func (r source) swapped(s string) string {
	list := []byte(s)
	for k, x := range list {
		if (x >= 'a' && x <= 'z' || x >= 'A' && x <= 'Z') && r.Intn(2) == 0 {
			list[k] = x ^ 32
		}
	}
	return string(list)
}

// P3.14: the letters outside literals; also those of letters behind literals, of comments and behind an error.
func TestCase(t *testing.T) {
	r := newSource(314)
	for range 40000 {
		src := r.join(shards(), 12)
		tokens, code, line, e := scan.Tokens(src)
		changed, from := "", 0
		for _, x := range tokens {
			if x.Kind == api.TkLiteral {
				end := max(strings.LastIndexByte(src[:x.To], '\''), strings.LastIndexByte(src[:x.To], '"')) + 1
				changed += r.swapped(src[from:x.At]) + src[x.At:end] + r.swapped(src[end:x.To])
				from = x.To
			}
		}
		rest := src[from:]
		if at := strings.IndexAny(rest, "'\""); code != 0 && at >= 0 { // the literal that has the error is not converted
			changed += r.swapped(rest[:at]) + rest[at:]
		} else {
			changed += r.swapped(rest)
		}
		again, code2, line2, e2 := scan.Tokens(changed)
		if !slices.Equal(again, tokens) || code2 != code || line2 != line || e2 != e {
			t.Fatalf("Tokens of %q: %v, code %d, line %d, error %v; want those of %q: %v, %d, %d", changed, again, code2, line2, e2, src, tokens, code, line)
		}
	}
}

// P3.15: a comment before and after each token.
func TestComments(t *testing.T) {
	r := newSource(315)
	for range 4000 {
		src := r.sound(9)
		tokens := must(t, src)
		for _, x := range tokens {
			for _, at := range []int{x.At, x.To} {
				if at > 0 && src[at-1] == '/' {
					continue
				}
				changed := src[:at] + r.comment() + src[at:]
				if again := must(t, changed); !scan.Same(again, tokens) {
					t.Fatalf("Tokens of %q: %s; want those of %q: %s", changed, brief(again), src, brief(tokens))
				}
			}
		}
	}
}

// P3.16: an error that is not code 6 stays, whatever follows its line; also where code 6 follows.
func TestErrorsStay(t *testing.T) {
	r := newSource(316)
	for range 40000 {
		src := r.join(shards(), 9) + "\n"
		_, code, line, e := scan.Tokens(src)
		if e == api.OK || code == 6 {
			continue
		}
		longer := src + r.join(shards(), 6)
		if _, code2, line2, e2 := scan.Tokens(longer); code2 != code || line2 != line || e2 != e {
			t.Fatalf("Tokens of %q: code %d, line %d, error %v; want %d, %d", longer, code2, line2, e2, code, line)
		}
	}
}

// P3.1: a call depends on its argument alone, whatever was called before.
func TestNoState(t *testing.T) {
	for range 3 {
		if tokens, code, line, e := scan.Tokens("a,\n#"); brief(tokens) != "A" || code != 13 || line != 2 || e != api.ErrCode {
			t.Errorf("Tokens: %s, code %d, line %d, error %v", brief(tokens), code, line, e)
		}
		if got := brief(must(t, "b")); got != "B ." {
			t.Errorf("Tokens: %s", got)
		}
	}
}
