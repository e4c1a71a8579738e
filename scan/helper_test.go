package scan_test

import (
	"math/rand"
	"strings"
	"testing"

	"qanat/api"
	"qanat/scan"
)

// brief tells tokens in a short form: a literal begins with ', a sign with ~, an end is a period, a gap is _ before it.
func brief(tokens []api.Token) string {
	var list []string
	for _, t := range tokens {
		text := map[int]string{api.TkSymbol: "", api.TkLiteral: "'", api.TkSign: "~", api.TkEnd: "."}[t.Kind] + t.Text
		if t.Gap {
			text = "_" + text
		}
		list = append(list, text)
	}
	return strings.Join(list, " ")
}

// must returns the tokens of a source that has no errors.
func must(t *testing.T, src string) []api.Token {
	t.Helper()
	tokens, code, line, e := scan.Tokens(src)
	if e != api.OK || code != 0 || line != 0 {
		t.Fatalf("Tokens of %q: code %d, line %d, error %v", src, code, line, e)
	}
	return tokens
}

// source makes random sources, always the same ones.
type source struct{ *rand.Rand }

func newSource(seed int64) source { return source{rand.New(rand.NewSource(seed))} }

// one returns one of a list.
func (r source) one(list []string) string { return list[r.Intn(len(list))] }

// join returns up to n of a list, one behind the other.
func (r source) join(list []string, n int) string {
	var text strings.Builder
	for range r.Intn(n + 1) {
		text.WriteString(r.one(list))
	}
	return text.String()
}

// comment returns a comment without line feeds.
func (r source) comment() string {
	return r.one([]string{"/**/", "/* */", "/* it's , ; : a */", "/*/**/*/", "/***/", "/*//*a*//*b*/ */"})
}

// atoms returns pieces of sources that have errors at most where they meet.
func atoms() []string {
	return []string{
		"a", "B", "x", "X", "b", "e", "E", "1", "5", "1e", "1E", ".5e", "1.e", "a.", "A.b", ".", "?", "'a'", `"b"`, "''", `""`, "'4a'x", "'4A4b'X", "'01000001'b", "''b",
		"+", "-", "*", "/", "%", "|", "&", "=", ">", "<", `\`, "**", "//", "||", "==", "\\==", ">>=", "<>", "(", ")", ",", ",", ",", ":", ":", ";", ";",
		" ", " ", " ", "\n", "\n", "\n", "/**/", "/* a */", "/* \n */", "/*/* ' */*/", ",\n", ", \n", ",/**/\n", "a:", "1e+5", "1e-", "it's'", strings.Repeat("n", api.MaxName),
	}
}

// shards returns pieces of sources that are errors, or that can make some.
func shards() []string {
	return append(atoms(), "'", `"`, "/*", "*/", "/*/", "#", "\t", "\x80", "\x7f", "\x00", "'a\tb'", "'7f'x", "'4'x", "'4g'X", "'0100001'b", "'11111111'B", "'2'b", "/* \t */", "/*\n\x80*/", "'\n", strings.Repeat("n", api.MaxName+1), "4a", "00100001")
}

// sound returns a source without errors, of up to n atoms.
func (r source) sound(n int) string {
	for {
		src := r.join(atoms(), n)
		if _, _, _, e := scan.Tokens(src); e == api.OK {
			return src
		}
	}
}
