package scan_test

import (
	"slices"
	"strings"
	"testing"

	"qanat/api"
	"qanat/scan"
)

// P3.4: the kinds of named symbols.
func TestSymbol(t *testing.T) {
	for s, want := range map[string]int{
		"a": api.SySimple, "aB_9!?": api.SySimple, "?": api.SySimple, "_1": api.SySimple, "e5": api.SySimple, strings.Repeat("n", api.MaxName): api.SySimple,
		"a.": api.SyStem, "!.": api.SyStem, "e.": api.SyStem,
		"a.b": api.SyComp, "a.b.": api.SyComp, "a..": api.SyComp, "a..b": api.SyComp, "a.1": api.SyComp, "a.1e": api.SyComp,
		"1": api.SyConst, "1a": api.SyConst, ".": api.SyConst, "..": api.SyConst, ".a": api.SyConst, "1.": api.SyConst, "1.2.3": api.SyConst, "1e": api.SyConst, "1e5": api.SyConst,
		"1e+5": api.SyConst, "5.E-2": api.SyConst, ".5e+007": api.SyConst, "1e+" + strings.Repeat("0", api.MaxName-3): api.SyConst,
	} {
		symbol, kind, e := scan.Symbol(s)
		if symbol != strings.ToUpper(s) || kind != want || e != api.OK {
			t.Errorf("Symbol of %q: %q, kind %d, error %v; want kind %d", s, symbol, kind, e, want)
		}
	}
}

// notSymbols returns strings that are not one symbol.
func notSymbols() []string {
	return []string{
		"", " ", " a", "a ", "a b", "a-b", "a+5", "1e+", "1e-", "1e+5x", "1e+5.", "1e+5e+5", "1 e+5", ".e+5", "e+5", "1.2.3e+5", "1ee+5", "1e*5", "+", "'a'", "a;", "a\n", "a/**/", "#", "\x00", "\xc3\xa4", "a\xff", "\u212a",
		strings.Repeat("n", api.MaxName+1), "1e+" + strings.Repeat("0", api.MaxName-2), strings.Repeat("n", 3*api.MaxSource),
	}
}

// P3.4, P3.5: what is not a symbol.
func TestNoSymbol(t *testing.T) {
	for _, s := range notSymbols() {
		if symbol, kind, e := scan.Symbol(s); symbol != "" || kind != 0 || e != api.ErrName {
			t.Errorf("Symbol of %.60q: %q, kind %d, error %v", s, symbol, kind, e)
		}
		if stem, parts, e := scan.Split(s); stem != "" || len(parts) > 0 || e != api.ErrName {
			t.Errorf("Split of %.60q: %q, %q, error %v", s, stem, parts, e)
		}
	}
}

// P3.4: Symbol accepts just the sources that are one symbol, as Tokens tells them.
func TestSymbolRandom(t *testing.T) {
	r := newSource(304)
	for range 50000 {
		s := r.join([]string{"1", "2", "e", "E", ".", "+", "-", "a", "Z", "_", " ", "#"}, 6)
		tokens, _, _, e := scan.Tokens(s)
		is := e == api.OK && len(tokens) == 2 && tokens[0].Kind == api.TkSymbol && tokens[0].To == len(s) && tokens[0].At == 0
		symbol, kind, e := scan.Symbol(s)
		switch {
		case !is && (symbol != "" || kind != 0 || e != api.ErrName):
			t.Fatalf("Symbol of %q: %q, kind %d, error %v", s, symbol, kind, e)
		case is && (symbol != tokens[0].Text || e != api.OK || kind != kindByForm(s)):
			t.Fatalf("Symbol of %q: %q, kind %d, error %v", s, symbol, kind, e)
		}
		checkSplit(t, s, kind)
	}
}

// kindByForm tells the kind of a symbol by the words of R2.
func kindByForm(s string) int {
	switch {
	case strings.ContainsAny(s[:1], "0123456789."):
		return api.SyConst
	case !strings.Contains(s, "."):
		return api.SySimple
	case strings.Count(s, ".") == 1 && strings.HasSuffix(s, "."):
		return api.SyStem
	}
	return api.SyComp
}

// checkSplit checks that the parts of a symbol of a kind make the symbol again.
func checkSplit(t *testing.T, s string, kind int) {
	stem, parts, e := scan.Split(s)
	want := api.OK
	switch kind {
	case 0:
		want = api.ErrName
	case api.SyConst, api.SySimple:
		want = api.ErrForm
	}
	if e != want || e != api.OK && (stem != "" || len(parts) > 0) {
		t.Fatalf("Split of %q: %q, %q, error %v", s, stem, parts, e)
	}
	if e == api.OK && (stem+strings.Join(parts, ".") != strings.ToUpper(s) || strings.Count(stem, ".") != 1 || (kind == api.SyStem) != (len(parts) == 0)) {
		t.Fatalf("Split of %q: %q, %q", s, stem, parts)
	}
}

// P3.5: named symbols.
func TestSplit(t *testing.T) {
	for s, want := range map[string][]string{
		"a.": {"A."}, "?x.": {"?X."}, "a.b.": {"A.", "B", ""}, "a.b": {"A.", "B"}, "a..": {"A.", "", ""}, "a..b": {"A.", "", "B"}, "ab.1.c!.E5": {"AB.", "1", "C!", "E5"}, "a...": {"A.", "", "", ""},
	} {
		stem, parts, e := scan.Split(s)
		if stem != want[0] || !slices.Equal(parts, want[1:]) || e != api.OK {
			t.Errorf("Split of %q: %q, %q, error %v; want %q", s, stem, parts, e, want)
		}
	}
	for _, s := range []string{"a", "1", ".", "1.", ".a.b", "1.2.3", "1e+5", "5.e+2"} {
		if stem, parts, e := scan.Split(s); stem != "" || len(parts) > 0 || e != api.ErrForm {
			t.Errorf("Split of %q: %q, %q, error %v", s, stem, parts, e)
		}
	}
}

// P3.6: literals of named strings.
func TestLiteral(t *testing.T) {
	text := strings.Repeat("n", api.MaxString)
	for s, want := range map[string]string{
		"": "''", "a": "'a'", "it's": `"it's"`, `say "x"`: `'say "x"'`, `'"`: `'''"'`, `"'`: `'"'''`, `''"`: `"''"""`, `'""`: `'''""'`, "'": `"'"`, `"`: `'"'`, " a b~": "' a b~'", "/*;,": "'/*;,'", text: "'" + text + "'",
	} {
		lit, e := scan.Literal(s)
		if lit != want || e != api.OK {
			t.Errorf("Literal of %.60q: %.60q, error %v; want %.60q", s, lit, e, want)
		}
	}
	for _, s := range []string{"\t", "\n", "a\x1f", "\x7f", "\x80b", "\xc3\xa4", "\x00", text + "n", strings.Repeat("n", 3*api.MaxSource)} {
		if lit, e := scan.Literal(s); lit != "" || e != api.ErrArg {
			t.Errorf("Literal of %.60q: %.60q, error %v", s, lit, e)
		}
	}
}

// P3.6: values of named literals.
func TestValue(t *testing.T) {
	for lit, want := range map[string]string{
		"''": "", `""`: "", "'a'": "a", `"a"`: "a", "'it''s'": "it's", `"it's"`: "it's", `"say ""x"""`: `say "x"`, "''''": "'", "'a\"\"b'": `a""b`, "'4a4B'x": "JK", `"4a4B"X`: "JK", "''x": "", `""b`: "", "'0100000101000010'B": "AB", "'/*'": "/*", "';'": ";",
	} {
		if value, code, e := scan.Value(lit); value != want || code != 0 || e != api.OK {
			t.Errorf("Value of %q: %q, code %d, error %v; want %q", lit, value, code, e, want)
		}
	}
	for _, lit := range []string{"", "a", " 'a'", "1'a'", "/**/'a'", "\n'a'", "#", "\x80", strings.Repeat("n", 3*api.MaxSource), "'a' ", "'a'\n", "'a'/**/", "'a'\"b\"", "'a'b1", "'4a'xy", "'4a'x'4b'x", "'a'c", "'a'#", "'a';", "'4a'x ", "'a'/*", "'4'xy", "''\x80"} {
		if value, code, e := scan.Value(lit); value != "" || code != 0 || e != api.ErrForm {
			t.Errorf("Value of %.60q: %q, code %d, error %v", lit, value, code, e)
		}
	}
	long := strings.Repeat("n", api.MaxString+1)
	for lit, want := range map[string]int{
		"'": 6, `"`: 6, "'a": 6, "'a''": 6, "'a\n'": 6, "\"a'": 6, "'''": 6, "'" + long: 6, "'\t": 6, "'" + strings.Repeat("n", 3*api.MaxSource): 6,
		"'\t'": 13, "'a\x7f'": 13, "'\x80'x": 13, "'" + long + "\x00' a": 13,
		"'4'x": 15, "'4g'x": 15, "'7f'x": 15, "'1F'X": 15, "'0100000'b": 15, "'01000002'b": 15, "'00000000'B": 15, "'a'x#": 15, "'a'b'": 15, "'" + long + "'x": 15,
		"'" + long + "'": 30, "'" + long + "' ": 30, "'" + strings.Repeat("41", api.MaxString+1) + "'x": 30, "'" + strings.Repeat("01000001", api.MaxString+1) + "'b": 30, "'" + strings.Repeat("n", 3*api.MaxSource) + "'": 30,
	} {
		if value, code, e := scan.Value(lit); value != "" || code != want || e != api.ErrCode {
			t.Errorf("Value of %.60q: %.60q, code %d, error %v; want code %d", lit, value, code, e, want)
		}
	}
}

// P3.6: Value against the oracle.
func TestValueRandom(t *testing.T) {
	r := newSource(306)
	for range 50000 {
		lit := r.one([]string{"'", `"`, "'", `"`, "a"}) + r.join([]string{"'", `"`, "4a", "7", "01000010", " ", "\n", "\t"}, 4) + r.join([]string{"'", `"`}, 1) + r.join([]string{"x", "X", "b", "B", "1", " ", "+"}, 2)
		want, wantE := "", api.ErrForm
		length, value, wantCode := 0, "", 0
		if lit[0] != 'a' {
			length, value, wantCode = literalOf(lit)
		}
		switch {
		case wantCode != 0:
			wantE = api.ErrCode
		case length == len(lit):
			want, wantE = value, api.OK
		}
		if got, code, e := scan.Value(lit); got != want || code != wantCode || e != wantE {
			t.Fatalf("Value of %q: %q, code %d, error %v; want %q, %d, %v", lit, got, code, e, want, wantCode, wantE)
		}
	}
}

// P3.17: Value inverts Literal, and every other literal without a letter for the same string is at least as long.
func TestLiteralLaws(t *testing.T) {
	r := newSource(317)
	for range 30000 {
		s := r.join([]string{"'", `"`, "a", " ", "''", `""`, "~", "4a"}, 12)
		lit, e := scan.Literal(s)
		if e != api.OK {
			t.Fatalf("Literal of %q: error %v", s, e)
		}
		if value, code, e := scan.Value(lit); value != s || code != 0 || e != api.OK {
			t.Fatalf("Value of %q: %q, code %d, error %v; want %q", lit, value, code, e, s)
		}
		for _, quote := range []string{"'", `"`} {
			other := quote + strings.ReplaceAll(s, quote, quote+quote) + quote
			if value, _, e := scan.Value(other); value != s || e != api.OK || len(other) < len(lit) {
				t.Fatalf("Literal of %q: %q is longer than %q", s, lit, other)
			}
		}
	}
	// All literals of at most four bytes between the quotes: none is shorter for its string.
	alphabet := []string{"", "'", `"`, "a", " "}
	for k := range 2 * 625 {
		quote := []string{"'", `"`}[k%2]
		lit := quote + alphabet[k/2%5] + alphabet[k/10%5] + alphabet[k/50%5] + alphabet[k/250%5] + quote
		value, _, e := scan.Value(lit)
		if e != api.OK {
			continue
		}
		if shortest, e := scan.Literal(value); e != api.OK || len(shortest) > len(lit) {
			t.Fatalf("Literal of %q: %q, error %v; %q is shorter", value, shortest, e, lit)
		}
	}
}
