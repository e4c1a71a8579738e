package scan_test

import (
	"slices"
	"strings"
	"testing"

	"qanat/api"
	"qanat/scan"
)

// P3.7: sources of the tokens of named sources.
func TestWrite(t *testing.T) {
	for src, want := range map[string]string{
		"": "", " ;\n": "", "a": "A\n", "a;b\n;c": "A\nB\nC\n", "  a  +  b ": "A + B\n", "a+b": "A+B\n", "x: y": "X:\nY\n", "x : y": "X :\nY\n", "x:;": "X:\n", "say 'it''s' \"a\"": "SAY \"it's\" 'a'\n", "'4a'x": "'J'\n", "f(a, \nb)": "F(A B)\n", "f(a,b)": "F(A,B)\n",
		"a,;": "A,;\n", ",;": ",;\n", "a ,;b": "A ,;\nB\n", "a','": "A','\n", "':':": "':':\n",
		// Symbols.
		"a/**/b": "A/**/B\n", "a/**/1": "A/**/1\n", "1e+5x": "1E+5X\n", "1e+5/**/6": "1E+5/**/6\n", "1e+5.": "1E+5.\n", "1/**/e": "1/**/E\n",
		"1e/**/+5": "1E+/**/5\n", "1e+/**/5": "1E+/**/5\n", "1e/**/-5": "1E-/**/5\n", "1e+x": "1E+X\n", "1e +5": "1E +5\n", "1e+ 5": "1E+ 5\n", "1e/**/+5x": "1E+/**/5X\n", "e+5": "E+5\n", "1e*5": "1E*5\n", "1e/**/+1e/**/+1": "1E+/**/1E+/**/1\n", "'a'1e/**/+5": "'a'1E+/**/5\n",
		// Where two symbols meet, the text of the second one and what follows is read with the first one.
		"a/**/b+c": "A/**/B/**/+C\n", "a/**/b/**/c": "A/**/B/**/C\n", "a/**/b'c'": "A/**/B/**/'c'\n", "a b+c": "A B+C\n", "1e+5x+1": "1E+5X+1\n",
		// Literals.
		"'a' /* */x": "'a' X\n", "'a'/**/x": "'a'/**/X\n", "'a'/**/b": "'a'/**/B\n", "'a'y": "'a'Y\n", "'a'/**/xy": "'a'XY\n", "'a'/**/x1": "'a'X1\n", "'a'/**/x.": "'a'X.\n", "'4a'/**/x": "'4a'/**/X\n", "'01000001'/**/b": "'01000001'/**/B\n", "''/**/x": "''/**/X\n", "x'a'": "X'a'\n", "x'a'/**/x": "X'a'/**/X\n",
		"'a'/**/'b'": "'a'/**/'b'\n", "'a'\"b\"": "'a'/**/'b'\n", "'a'\"it's\"": "'a'\"it's\"\n", "'a'1": "'a'1\n", "'a'/**/x+": "'a'/**/X+\n",
		// Signs.
		"a--b": "A--B\n", "=/**/=": "=/**/=\n", "==/**/=": "===\n", "===": "===\n", "=/**/==": "=/**/==\n", "\\=/**/=": "\\=/**/=\n", "\\/**/=": "\\/**/=\n", "\\/**/==": "\\/**/==\n", ">/**/>=": ">/**/>=\n", ">>/**/=": ">>/**/=\n", ">=>": ">=>\n", "*/**/*": "*/**/*\n", "*/": "*/\n", "***": "***\n", "*/**/**": "*/**/**\n", "//*": "//*\n", "|/**/|": "|/**/|\n", "&/**/&&": "&/**/&&\n", "</**/>": "</**/>\n", "(),:=": "(),:=\n", "= =": "= =\n", "a/'b'": "A/'b'\n", "a/-b": "A/-B\n", "\\\\": "\\\\\n", "::": "::\n",
	} {
		tokens := must(t, src)
		text, e := scan.Write(tokens)
		if text != want || e != api.OK {
			t.Errorf("Write of the tokens of %q: %q, error %v; want %q", src, text, e, want)
		}
		if !scan.Same(must(t, text), tokens) {
			t.Errorf("Write of the tokens of %q: %q has other tokens", src, text)
		}
	}
}

// P3.7: tokens that are not those of a source.
func TestWriteNot(t *testing.T) {
	sym := func(text string) api.Token { return api.Token{Kind: api.TkSymbol, Text: text} }
	lit := func(text string) api.Token { return api.Token{Kind: api.TkLiteral, Text: text} }
	sign := func(text string) api.Token { return api.Token{Kind: api.TkSign, Text: text} }
	far := func(x api.Token) api.Token { x.Gap = true; return x }
	end := api.Token{Kind: api.TkEnd}
	for k, tokens := range [][]api.Token{
		{sym("A")}, {sym("A"), end, sym("B")}, {end}, {sym("A"), end, end}, {sym("X"), sign(":"), end, end}, {end, sym("A"), end},
		{sym("a"), end}, {sym(""), end}, {sym("A B"), end}, {sym("A+B"), end}, {sym("1E+"), end}, {sym("A/**/"), end}, {sym("A\n"), end}, {sym("#"), end}, {sym("'a'"), end}, {sym(strings.Repeat("N", api.MaxName+1)), end}, {sym("\x80"), end}, {sym("+"), end},
		{lit("\t"), end}, {lit("\n"), end}, {lit("\x80"), end}, {lit(strings.Repeat("n", api.MaxString+1)), end}, {sym("A"), lit("\x7f"), sym("B"), end},
		{sign(""), end}, {sign(";"), end}, {sym("A"), sign(";"), end}, {sign("= ="), end}, {sign("=/"), end}, {sign("===="), end}, {sign("/*"), end}, {sign("A"), end}, {sign("#"), end}, {sign("\n"), end}, {sign(" "), end},
		{far(sym("A")), end}, {sym("A"), end, far(sym("B")), end}, {sym("A"), far(end)}, {sym("A"), {Kind: api.TkEnd, Text: ";"}}, {sym("A"), {Kind: api.TkEnd, Text: "\n"}},
		{{Kind: 0, Text: "A"}, end}, {{Kind: 5, Text: "A"}, end}, {{Kind: -1, Text: "A"}, end}, {sym("A"), {}, end}, {{}},
		// A label ends its clause, and what follows it is another one.
		{sym("X"), sign(":"), sym("Y"), end}, {sym("X"), far(sign(":")), far(sym("Y")), end}, {sym("X"), sign(":"), sign(":"), end}, {sym("X"), sign(":"), sign(","), end},
		// No source has these without a gap.
		{sign("/"), sign("*"), end}, {sign("/"), sign("/"), end}, {sym("A"), sign("/"), sign("**"), end}, {sign("//"), sign("/"), sign("*"), end},
	} {
		if text, e := scan.Write(tokens); text != "" || e != api.ErrForm {
			t.Errorf("Write of list %d (%s): %q, error %v", k, brief(tokens), text, e)
		}
	}
	if text, e := scan.Write(nil); text != "" || e != api.OK {
		t.Errorf("Write of no tokens: %q, error %v", text, e)
	}
}

// P3.7: texts that are just not too long, and too long; ErrForm comes first.
func TestWriteLimit(t *testing.T) {
	end := api.Token{Kind: api.TkEnd}
	tokens := slices.Repeat([]api.Token{{Kind: api.TkSymbol, Text: "A"}, end}, api.MaxSource/2)
	text, e := scan.Write(tokens)
	if len(text) != api.MaxSource || e != api.OK || !scan.Same(must(t, text), tokens) {
		t.Errorf("Write of the longest text: %d, error %v", len(text), e)
	}
	tokens = append(tokens, api.Token{Kind: api.TkSign, Text: "+"}, end)
	if text, e := scan.Write(tokens); text != "" || e != api.ErrLimit {
		t.Errorf("Write of a text that is too long: %d, error %v", len(text), e)
	}
	tokens[0].Text = "a"
	if text, e := scan.Write(tokens); text != "" || e != api.ErrForm {
		t.Errorf("Write of other tokens: %d, error %v", len(text), e)
	}
	// The tokens of a source can have a text that is longer than the source.
	if text, e := scan.Write(must(t, strings.Repeat(`'a'"b"`, api.MaxSource/6))); text != "" || e != api.ErrLimit {
		t.Errorf("Write of a text that is longer than its source: %d, error %v", len(text), e)
	}
}

// P3.7: positions do not matter, and the argument stays as it is.
func TestWriteArgument(t *testing.T) {
	tokens := must(t, "x: a/**/b, 'c'\"d\"; e,;")
	want, _ := scan.Write(tokens)
	moved := slices.Clone(tokens)
	for k := range moved {
		moved[k].At, moved[k].To, moved[k].Line = -k, 1000-k, -7
	}
	kept := slices.Clone(moved)
	if text, e := scan.Write(moved); text != want || e != api.OK || !slices.Equal(moved, kept) {
		t.Errorf("Write of moved tokens: %q, error %v; want %q", text, e, want)
	}
}

// P3.8.
func TestSame(t *testing.T) {
	base := []api.Token{{Kind: api.TkSymbol, Text: "A", Line: 1, At: 0, To: 1}, {Kind: api.TkSymbol, Text: "B", Gap: true, Line: 1, At: 2, To: 3}}
	same := []api.Token{{Kind: api.TkSymbol, Text: "A", Line: 4, At: 9, To: 5}, {Kind: api.TkSymbol, Text: "B", Gap: true}}
	if !scan.Same(base, same) || !scan.Same(base, base) || !scan.Same(nil, nil) || !scan.Same(nil, []api.Token{}) {
		t.Error("Same refuses equal lists")
	}
	for k, change := range []func(l []api.Token) []api.Token{
		func(l []api.Token) []api.Token { l[0].Kind = api.TkLiteral; return l },
		func(l []api.Token) []api.Token { l[1].Text = "C"; return l },
		func(l []api.Token) []api.Token { l[1].Text = "b"; return l },
		func(l []api.Token) []api.Token { l[1].Gap = false; return l },
		func(l []api.Token) []api.Token { l[0], l[1] = l[1], l[0]; return l },
		func(l []api.Token) []api.Token { return l[:1] },
		func(l []api.Token) []api.Token { return append(l, api.Token{}) },
		func(l []api.Token) []api.Token { return nil },
	} {
		other := change(slices.Clone(base))
		if scan.Same(base, other) || scan.Same(other, base) {
			t.Errorf("Same accepts change %d", k)
		}
	}
}

// P3.11: for the tokens of random sources; P3.7: their text against the oracle.
func TestRoundTrip(t *testing.T) {
	r := newSource(311)
	for range 20000 {
		src := r.sound(14)
		tokens := must(t, src)
		text, e := scan.Write(tokens)
		if e != api.OK || text != oracleWrite(tokens) {
			t.Fatalf("Write of the tokens of %q: %q, error %v; want %q", src, text, e, oracleWrite(tokens))
		}
		again := must(t, text)
		if !scan.Same(again, tokens) {
			t.Fatalf("the text %q of %q has other tokens", text, src)
		}
		if twice, e := scan.Write(again); twice != text || e != api.OK {
			t.Fatalf("Write of the tokens of %q: %q, error %v", text, twice, e)
		}
	}
}

// P3.7: random lists of tokens against the oracle; P3.8: for the tokens of their text.
func TestRandomTokens(t *testing.T) {
	r := newSource(307)
	texts := []string{"A", "B", "X", "1E", "1E+5", "5", ".", "E", "+", "-", "*", "/", "=", "==", "\\", "\\=", ">", ">>", "|", "(", ",", ":", ";", "a", "it's", "", "'\"", "'4a'", "~"}
	for range 40000 {
		tokens := make([]api.Token, r.Intn(7))
		for k := range tokens {
			tokens[k] = api.Token{Kind: 1 + r.Intn(3), Text: r.one(texts), Gap: k > 0 && r.Intn(5) == 0}
			if r.Intn(5) == 0 {
				tokens[k] = api.Token{Kind: api.TkEnd}
			} else if tokens[k].Kind != api.TkLiteral && r.Intn(3) > 0 {
				tokens[k].Kind = map[bool]int{true: api.TkSymbol, false: api.TkSign}[symbolForm.MatchString(tokens[k].Text)]
			}
		}
		if r.Intn(8) > 0 {
			tokens = append(tokens, api.Token{Kind: api.TkEnd})
		}
		want := oracleWrite(tokens)
		again, code, _, _ := oracle(want)
		wantE := api.OK
		if code != 0 || !sameTokens(again, tokens) {
			want, wantE = "", api.ErrForm
		}
		if text, e := scan.Write(tokens); text != want || e != wantE {
			t.Fatalf("Write of %s: %q, error %v; want %q, %v", brief(tokens), text, e, want, wantE)
		}
		if scan.Same(tokens, again) != sameTokens(tokens, again) {
			t.Fatalf("Same of %s and %s", brief(tokens), brief(again))
		}
	}
}
