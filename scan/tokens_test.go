package scan_test

import (
	"slices"
	"strings"
	"testing"

	"qanat/api"
	"qanat/scan"
)

// P3.1: tokens of named sources.
func TestTokens(t *testing.T) {
	name := strings.Repeat("n", api.MaxName)
	for _, c := range [][2]string{
		{"", ""}, {"  ", ""}, {"\n\n", ""}, {";;", ""}, {"/* a */", ""}, {" ; \n ; ", ""},
		{"say 1 + a.b -- /* x */ 'it''s'", "SAY _1 _~+ _A.B _~- ~- _'it's ."},
		// Symbols, with exponents and without.
		{"a?!._9Z", "A?!._9Z ."}, {name, strings.ToUpper(name) + " ."}, {"1e+5x", "1E+5 X ."}, {"5.E-2", "5.E-2 ."}, {".5e+07", ".5E+07 ."}, {"1e5", "1E5 ."},
		{"1e+", "1E ~+ ."}, {"1e+x", "1E ~+ X ."}, {"1e +5", "1E _~+ 5 ."}, {"1e+ 5", "1E ~+ _5 ."}, {"1e/**/+5", "1E ~+ 5 ."}, {"1e+/**/5", "1E ~+ 5 ."},
		{".e+5", ".E ~+ 5 ."}, {"e+5", "E ~+ 5 ."}, {"1.2.3e+5", "1.2.3E ~+ 5 ."}, {"1ee+5", "1EE ~+ 5 ."}, {"a1e+5", "A1E ~+ 5 ."}, {"1e+5e+5", "1E+5 E ~+ 5 ."}, {"1e+5.e+5", "1E+5 .E ~+ 5 ."}, {"1e*5", "1E ~* 5 ."}, {"1_e+5", "1_E ~+ 5 ."}, {"..1e-1", "..1E ~- 1 ."},
		{strings.Repeat("1", 36) + "e+12", strings.Repeat("1", 36) + "E+12 ."},
		// Literals and their letters.
		{"'a''b'\"c\"\"d\"", "'a'b 'c\"d ."}, {"'a\"b'", "'a\"b ."}, {"''", "' ."}, {"''''", "'' ."}, {"''x", "' ."}, {"''B", "' ."}, {"'4a4B'x", "'JK ."}, {"'4a4B'xy", "'4a4B XY ."}, {"'4a4B'x.", "'4a4B X. ."}, {"'4a4B'x?", "'4a4B X? ."}, {"'4a'X'4b'", "'J '4b ."},
		{"'01000001'b", "'A ."}, {"\"0100000101000010\"B(", "'AB ~( ."}, {"'20'x\"7e\"X", "'  '~ ."}, {"'4a' x", "'4a _X ."}, {"'4a'/**/x", "'4a X ."}, {"'4a'c", "'4a C ."}, {"'a/*b'", "'a/*b ."}, {"';'", "'; ."},
		// Signs.
		{`\==\>>\<<>>=<<=**//||&&==\=\>\<>=<=>>`, `~\== ~\>> ~\<< ~>>= ~<<= ~** ~// ~|| ~&& ~== ~\= ~\> ~\< ~>= ~<= ~>> .`},
		{"<< >< <>+-*/%|&=(),:", "~<< _~>< _~<> ~+ ~- ~* ~/ ~% ~| ~& ~= ~( ~) ~, ~: ."}, {`\\`, `~\ ~\ .`}, {"===", "~== ~= ."}, {">>>=", "~>> ~>= ."}, {"<><", "~<> ~< ."}, {"***", "~** ~* ."}, {"*/", "~* ~/ ."}, {`\>=`, `~\> ~= .`}, {"= =", "~= _~= ."},
		// Comments.
		{"a/* x\n */b", "A B ."}, {"a/* x */ b", "A _B ."}, {"a /* x */b", "A _B ."}, {"a/*/* */*/b", "A B ."}, {"a/*/*/ */ */b", "A B ."}, {"a/***/b", "A B ."}, {"//*", "~// ~* ."}, {"*/* */a", "~* A ."}, {"/* ' \" # */a", "A ."},
		// Ends of clauses, and labels.
		{"a;b\nc", "A . B . C ."}, {"x: y: say", "X ~: . Y ~: . SAY ."}, {"x :y", "X _~: . Y ."}, {"1: a", "1 ~: . A ."}, {"'x': a", "'x ~: _A ."}, {"(: a", "~( ~: _A ."}, {": a", "~: _A ."}, {"a b: c", "A _B ~: _C ."}, {"x:;", "X ~: ."}, {"x::", "X ~: . ~: ."}, {"x: : y", "X ~: . ~: _Y ."},
		// Continuations.
		{"f(a, \nb)", "F ~( A _B ~) ."}, {"a,,\nb", "A ~, _B ."}, {"a,/* c */ \nb", "A _B ."}, {"a,/*\n*/\nb", "A _B ."}, {"a ,", "A ."}, {"a,", "A ."}, {"a,,", "A ~, ."}, {"a,\n", "A ."}, {",", ""}, {",\nb", "B ."}, {",\n,\n b", "B ."}, {"a,\n,\n,\nb", "A _B ."}, {"a,\n\nb", "A . B ."}, {"a,\n;b", "A . B ."},
		{"a,;", "A ~, ."}, {",;b", "~, . B ."}, {"a, b", "A ~, _B ."}, {"a;,\nb", "A . B ."}, {"x,\n:y", "X _~: . Y ."}, {"x:,\ny", "X ~: . Y ."}, {",\nx:y", "X ~: . Y ."}, {"a','\nb", "A ', . B ."}, {"a,\nb,\nc", "A _B _C ."},
		// The comma of an earlier line is the last token before the end of the next one, in their clause.
		{"a,,\n\nb", "A _B ."}, {"a,,\n", "A ."}, {"a,,\n;", "A ~, ."},
	} {
		if got := brief(must(t, c[0])); got != c[1] {
			t.Errorf("Tokens of %q: %s; want %s", c[0], got, c[1])
		}
	}
}

// P3.1: positions.
func TestPositions(t *testing.T) {
	sym := func(text string, gap bool, line, at, to int) api.Token {
		return api.Token{Kind: api.TkSymbol, Text: text, Gap: gap, Line: line, At: at, To: to}
	}
	sign := func(text string, gap bool, line, at, to int) api.Token {
		return api.Token{Kind: api.TkSign, Text: text, Gap: gap, Line: line, At: at, To: to}
	}
	lit := func(text string, gap bool, line, at, to int) api.Token {
		return api.Token{Kind: api.TkLiteral, Text: text, Gap: gap, Line: line, At: at, To: to}
	}
	end := func(line, at, to int) api.Token {
		return api.Token{Kind: api.TkEnd, Line: line, At: at, To: to}
	}
	for src, want := range map[string][]api.Token{
		"ab":              {sym("AB", false, 1, 0, 2), end(1, 2, 2)},
		"ab ":             {sym("AB", false, 1, 0, 2), end(1, 3, 3)},
		" ab; c":          {sym("AB", false, 1, 1, 3), end(1, 3, 4), sym("C", false, 1, 5, 6), end(1, 6, 6)},
		"a \n'b' ;":       {sym("A", false, 1, 0, 1), end(1, 2, 3), lit("b", false, 2, 3, 6), end(2, 7, 8)},
		"x :\ny:z":        {sym("X", false, 1, 0, 1), sign(":", true, 1, 2, 3), end(1, 3, 3), sym("Y", false, 2, 4, 5), sign(":", false, 2, 5, 6), end(2, 6, 6), sym("Z", false, 2, 6, 7), end(2, 7, 7)},
		"a/*\n\n*/+'41'x": {sym("A", false, 1, 0, 1), sign("+", false, 3, 7, 8), lit("A", false, 3, 8, 13), end(3, 13, 13)},
		"a,\n\\==\n":      {sym("A", false, 1, 0, 1), sign("\\==", true, 2, 3, 6), end(2, 6, 7)},
		"a,\n":            {sym("A", false, 1, 0, 1), end(2, 3, 3)},
		"a,\n\n":          {sym("A", false, 1, 0, 1), end(2, 3, 4)},
		"a/*\n*/":         {sym("A", false, 1, 0, 1), end(2, 6, 6)},
		"a/*\n*/\n":       {sym("A", false, 1, 0, 1), end(2, 6, 7)},
	} {
		if got := must(t, src); !slices.Equal(got, want) {
			t.Errorf("Tokens of %q: %v; want %v", src, got, want)
		}
	}
}

// P3.1, P3.2, P3.3: codes, their lines, and the tokens before.
func TestCodes(t *testing.T) {
	long := strings.Repeat("n", api.MaxName+1)
	text := strings.Repeat("n", api.MaxString)
	for _, c := range []struct {
		src        string
		code, line int
		before     string
	}{
		{"'a", 6, 1, ""}, {"a\n'b", 6, 2, "A ."}, {"'a\nb'", 6, 1, ""}, {"'a''", 6, 1, ""}, {"\"a'", 6, 1, ""}, {"'\t", 6, 1, ""}, {"'\x80\n'", 6, 1, ""}, {"'a'\"", 6, 1, "'a"},
		{"a /* b /* c */\nd", 6, 1, "A"}, {"\n/*", 6, 2, ""}, {"/*/", 6, 1, ""}, {"/* \t", 6, 1, ""}, {"\n/* \n /* \n */ \n", 6, 2, ""}, {"/* '*/'", 6, 1, ""},
		{"say #", 13, 1, "SAY"}, {"a\n\tb", 13, 2, "A ."}, {"'a\tb'", 13, 1, ""}, {"'\x7f'x", 13, 1, ""}, {"/* \n\t */", 13, 2, ""}, {"/* \x80\n\t */", 13, 1, ""}, {"/*/*\n*/\x00*/", 13, 2, ""}, {"a$", 13, 1, "A"}, {"[", 13, 1, ""}, {"^", 13, 1, ""}, {"\r\n", 13, 1, ""}, {"\xc3\xa4", 13, 1, ""}, {"@`{}~", 13, 1, ""},
		{"'4a4'x", 15, 1, ""}, {"\n'4g'x", 15, 2, ""}, {"'4 4'x", 15, 1, ""}, {"' '8B", 0, 0, "'  8B ."}, {"'7F'x", 15, 1, ""}, {"'1f'X", 15, 1, ""}, {"'0a'x", 15, 1, ""}, {"'80'x", 15, 1, ""}, {"'0100000'b", 15, 1, ""}, {"'01000002'b", 15, 1, ""}, {"'11111111'B", 15, 1, ""}, {"'+4'x", 15, 1, ""}, {"'0x'x", 15, 1, ""}, {"'4''4'x", 15, 1, ""}, {"'a'b", 15, 1, ""}, {"'a'B;", 15, 1, ""}, {"'_4'x", 15, 1, ""},
		{"a " + long, 30, 1, "A"}, {"\n" + strings.Repeat("1", 37) + "e+12", 30, 2, ""}, {strings.Repeat("1", 38) + "e+1", 30, 1, ""}, {"'" + text + "n'", 30, 1, ""}, {"'" + strings.Repeat("41", api.MaxString+1) + "'x", 30, 1, ""}, {"'" + strings.Repeat("41", api.MaxString+1) + "4'x", 15, 1, ""}, {"'" + strings.Repeat("7f", api.MaxString+1) + "'x", 15, 1, ""}, {"'" + text + "\t'", 13, 1, ""}, {"'" + text + "''", 6, 1, ""}, {"'" + text + "'''", 30, 1, ""},
		// A comma before the error stays, unless its line was continued.
		{"say a, #", 13, 1, "SAY _A ~,"}, {"a,/*", 6, 1, "A ~,"}, {"a, 'b\n", 6, 1, "A ~,"}, {"a,\n#", 13, 2, "A"}, {"x: #", 13, 1, "X ~: ."}, {"x,\n: y; z #", 13, 2, "X _~: . Y . Z"},
		// The first error by position.
		{"# 'a", 13, 1, ""}, {"'4'x #", 15, 1, ""}, {"a\n" + long + " /*", 30, 2, "A ."},
	} {
		wantE := api.ErrCode
		if c.code == 0 {
			wantE = api.OK
		}
		tokens, code, line, e := scan.Tokens(c.src)
		if brief(tokens) != c.before || code != c.code || line != c.line || e != wantE {
			t.Errorf("Tokens of %.60q: %s, code %d, line %d, error %v; want %s, %d, %d", c.src, brief(tokens), code, line, e, c.before, c.code, c.line)
		}
		if e == api.OK {
			continue
		}
		if clauses, code, line, e := scan.Clauses(c.src); len(clauses) > 0 || code != c.code || line != c.line || e != wantE {
			t.Errorf("Clauses of %.60q: %v, code %d, line %d, error %v", c.src, clauses, code, line, e)
		}
		if marks, code, line, e := scan.Labels(c.src); len(marks) > 0 || code != c.code || line != c.line || e != wantE {
			t.Errorf("Labels of %.60q: %v, code %d, line %d, error %v", c.src, marks, code, line, e)
		}
	}
}

// P3.1, P3.4, P3.6: what is just not too long.
func TestGreatest(t *testing.T) {
	text := strings.Repeat("n", api.MaxString)
	for _, src := range []string{"'" + text + "'", "'" + strings.Repeat("6e", api.MaxString) + "'x", "'" + strings.Repeat("01101110", api.MaxString) + "'b"} {
		tokens := must(t, src)
		if len(tokens) != 2 || tokens[0].Kind != api.TkLiteral || tokens[0].Text != text {
			t.Errorf("Tokens of %.60q: %.60s", src, brief(tokens))
		}
		if value, code, e := scan.Value(src); value != text || code != 0 || e != api.OK {
			t.Errorf("Value of %.60q: %.60q, code %d, error %v", src, value, code, e)
		}
	}
	quotes := strings.Repeat("'", api.MaxString)
	if tokens := must(t, "'"+quotes+quotes+"'"); len(tokens) != 2 || tokens[0].Text != quotes {
		t.Errorf("doubled quotes: %.60s", brief(tokens))
	}
	if tokens := must(t, strings.Repeat("1", 36)+"e-12"); len(tokens) != 2 || len(tokens[0].Text) != api.MaxName {
		t.Errorf("the longest symbol with an exponent: %s", brief(tokens))
	}
}

// P3.1, P3.2, P3.3: sources that are too long, whatever is in them.
func TestTooLong(t *testing.T) {
	for _, src := range []string{strings.Repeat(" ", api.MaxSource+1), strings.Repeat("#", api.MaxSource+1), strings.Repeat("a;", api.MaxSource)} {
		if tokens, code, line, e := scan.Tokens(src); len(tokens) > 0 || code != 0 || line != 0 || e != api.ErrLimit {
			t.Errorf("Tokens: %d, code %d, line %d, error %v", len(tokens), code, line, e)
		}
		if clauses, code, line, e := scan.Clauses(src); len(clauses) > 0 || code != 0 || line != 0 || e != api.ErrLimit {
			t.Errorf("Clauses: %d, code %d, line %d, error %v", len(clauses), code, line, e)
		}
		if marks, code, line, e := scan.Labels(src); len(marks) > 0 || code != 0 || line != 0 || e != api.ErrLimit {
			t.Errorf("Labels: %d, code %d, line %d, error %v", len(marks), code, line, e)
		}
	}
	if tokens := must(t, strings.Repeat("a;", api.MaxSource/2)); len(tokens) != api.MaxSource {
		t.Errorf("Tokens of a source of MaxSource bytes: %d", len(tokens))
	}
	if _, code, line, e := scan.Tokens(strings.Repeat(" ", api.MaxSource-1) + "#"); code != 13 || line != 1 || e != api.ErrCode {
		t.Errorf("an error in the last byte: code %d, line %d, error %v", code, line, e)
	}
	if _, code, line, e := scan.Tokens(strings.Repeat("/*", api.MaxSource/2)); code != 6 || line != 1 || e != api.ErrCode {
		t.Errorf("comments that are not closed: code %d, line %d, error %v", code, line, e)
	}
	if tokens := must(t, strings.Repeat("/*", api.MaxSource/4)+strings.Repeat("*/", api.MaxSource/4)); len(tokens) != 0 {
		t.Errorf("nested comments: %s", brief(tokens))
	}
}

// P3.2, P3.3: clauses and labels of named sources.
func TestClauses(t *testing.T) {
	for src, want := range map[string]struct {
		clauses []string
		labels  []api.Mark
	}{
		"":                        {nil, nil},
		"\n; /* */ ,\n":           {nil, nil},
		"x: y: say 1; ; say 2":    {[]string{"X ~:", "Y ~:", "SAY _1", "SAY _2"}, []api.Mark{{Name: "X", Line: 1}, {Name: "Y", Line: 1}}},
		"a\n\nb.c:\n 1 : if a,":   {[]string{"A", "B.C ~:", "1 _~:", "IF _A"}, []api.Mark{{Name: "B.C", Line: 3}, {Name: "1", Line: 4}}},
		"'x': a; (x): b; if: do:": {[]string{"'x ~: _A", "~( X ~) ~: _B", "IF ~:", "DO ~:"}, []api.Mark{{Name: "IF", Line: 1}, {Name: "DO", Line: 1}}},
		"x,\n:; x:":               {[]string{"X _~:", "X ~:"}, []api.Mark{{Name: "X", Line: 1}, {Name: "X", Line: 2}}},
		"a x: b":                  {[]string{"A _X ~: _B"}, nil},
		"x=:":                     {[]string{"X ~= ~:"}, nil},
	} {
		clauses, code, line, e := scan.Clauses(src)
		var texts []string
		for _, clause := range clauses {
			texts = append(texts, brief(clause))
		}
		if !slices.Equal(texts, want.clauses) || code != 0 || line != 0 || e != api.OK {
			t.Errorf("Clauses of %q: %q, code %d, line %d, error %v", src, texts, code, line, e)
		}
		marks, code, line, e := scan.Labels(src)
		if !slices.Equal(marks, want.labels) || code != 0 || line != 0 || e != api.OK {
			t.Errorf("Labels of %q: %v, code %d, line %d, error %v", src, marks, code, line, e)
		}
	}
}

// P3.2: clauses share no memory.
func TestClausesApart(t *testing.T) {
	clauses, _, _, _ := scan.Clauses("a b; c d; e")
	for k := range clauses {
		clauses[k] = append(clauses[k], api.Token{Text: "!"}, api.Token{Text: "!"})
		clauses[k][0].Text = "#"
	}
	for k, want := range []string{"# _B ! !", "# _D ! !", "# ! !"} {
		if brief(clauses[k]) != want {
			t.Errorf("clause %d: %s; want %s", k, brief(clauses[k]), want)
		}
	}
}

// P3.1, P3.2, P3.3: random sources against the oracle.
func TestRandomSources(t *testing.T) {
	r := newSource(301)
	for k := range 30000 {
		list := atoms()
		if k%2 == 0 {
			list = shards()
		}
		src := r.join(list, 14)
		want, wantCode, wantLine, _ := oracle(src)
		wantE := api.OK
		if wantCode != 0 {
			wantE = api.ErrCode
		}
		tokens, code, line, e := scan.Tokens(src)
		if !slices.Equal(tokens, want) || code != wantCode || line != wantLine || e != wantE {
			t.Fatalf("Tokens of %q: %v, code %d, line %d, error %v; want %v, %d, %d", src, tokens, code, line, e, want, wantCode, wantLine)
		}
		checkClauses(t, src)
	}
}

// checkClauses compares Clauses and Labels with Tokens.
func checkClauses(t *testing.T, src string) {
	tokens, code, line, e := scan.Tokens(src)
	var want [][]api.Token
	var wantMarks []api.Mark
	var clause []api.Token
	for _, x := range tokens {
		if x.Kind != api.TkEnd {
			clause = append(clause, x)
			continue
		}
		if len(clause) == 2 && clause[0].Kind == api.TkSymbol && clause[1].Kind == api.TkSign && clause[1].Text == ":" {
			wantMarks = append(wantMarks, api.Mark{Name: clause[0].Text, Line: clause[0].Line})
		}
		want, clause = append(want, clause), nil
	}
	if e != api.OK {
		want, wantMarks = nil, nil
	}
	clauses, code2, line2, e2 := scan.Clauses(src)
	if !slices.EqualFunc(clauses, want, slices.Equal) || code2 != code || line2 != line || e2 != e {
		t.Fatalf("Clauses of %q: %v, code %d, line %d, error %v; want %v", src, clauses, code2, line2, e2, want)
	}
	marks, code3, line3, e3 := scan.Labels(src)
	if !slices.Equal(marks, wantMarks) || code3 != code || line3 != line || e3 != e {
		t.Fatalf("Labels of %q: %v, code %d, line %d, error %v; want %v", src, marks, code3, line3, e3, wantMarks)
	}
}
