package syn_test

import (
	"slices"
	"strings"
	"testing"

	"qanat/api"
	"qanat/scan"
	"qanat/syn"
)

// checkRound checks P5.8 for the statements of a source.
func checkRound(t *testing.T, src string, l []api.Stmt) {
	t.Helper()
	text, e := syn.Print(l)
	if e != api.OK {
		t.Fatalf("Print of %q: error %v", src, e)
	}
	again := must(t, text)
	if !syn.Same(again, l) {
		t.Fatalf("the text of %q: %q has other statements", src, text)
	}
	if twice, e := syn.Print(again); twice != text || e != api.OK {
		t.Fatalf("Print of %q: %q, error %v", text, twice, e)
	}
}

// P5.1: random programs, with the lines of all statements; P5.8.
func TestRandomPrograms(t *testing.T) {
	d := newDice(508)
	for range 4000 {
		src, want := program(d, 6)
		l, code, line, e := syn.Parse(src)
		if e != api.OK || forms(l) != forms(want) {
			t.Fatalf("Parse of %q: %s, code %d, line %d, error %v; want %s", src, forms(l), code, line, e, forms(want))
		}
		if !syn.Same(l, want) || syn.Count(l) != syn.Count(want) {
			t.Fatalf("the statements of %q: %s; want %s", src, forms(l), forms(want))
		}
		checkRound(t, src, l)
		inner, code, _, e := syn.ParseInner(src)
		isLabel := func(s api.Stmt) bool { return s.Kind == api.StLabel }
		if hasLabel := slices.ContainsFunc(l, isLabel); hasLabel && code != 47 || !hasLabel && (e != api.OK || forms(inner) != forms(l)) {
			t.Fatalf("ParseInner of %q: %s, code %d, error %v", src, forms(inner), code, e)
		}
	}
}

// soup returns a random source of words and signs that mean something somewhere, which often is an error.
func soup(d dice) string {
	words := strings.Fields("a b. c.d 1 2 'x' 'y z' + - * ** = == \\ , ( ) : ; ; ; ; address arg call do drop else end exit if iterate leave nop numeric otherwise parse procedure pull return say select signal then trace when to by for while until forever value with var on off error name upper digits form expose f( 'g'( =( .")
	var text strings.Builder
	for range d.Intn(14) {
		text.WriteString(d.one(words...))
		text.WriteString(d.one(" ", " ", " ", "", "\n"))
	}
	return text.String()
}

// broken returns a program of which one token is missing, or another one.
func broken(d dice) string {
	src, _ := program(d, 4)
	tokens, _, _, _ := scan.Tokens(src)
	if len(tokens) == 0 {
		return soup(d)
	}
	x := tokens[d.Intn(len(tokens))]
	return src[:x.At] + d.one("", "", " then ", " else ", " end ", ")", "(", ",", "\\", ":", " x ", " 1 ", ";", "=", "\n", "#", "'", " to ", "+") + src[x.To:]
}

// P5.8: whatever Parse accepts.
func TestRoundOfSoup(t *testing.T) {
	d := newDice(581)
	accepted := 0
	for range 25000 {
		src := soup(d)
		if d.in(4) {
			src = broken(d)
		}
		l, code, line, e := syn.Parse(src)
		switch {
		case e == api.OK:
			accepted++
			checkRound(t, src, l)
		case e != api.ErrCode || code == 0 || line < 1 || line > 1+strings.Count(src, "\n") || l != nil:
			t.Fatalf("Parse of %q: %s, code %d, line %d, error %v", src, forms(l), code, line, e)
		}
	}
	if accepted < 2000 {
		t.Errorf("only %d sources were programs", accepted)
	}
}

// textOf is the text of an expression, found from the texts of its operands; bare: the words that must be in parentheses.
func textOf(e api.Expr, bare ...string) string {
	level := func(x api.Expr) int {
		return slices.IndexFunc(operators(), func(list []string) bool { return slices.Contains(list, x.Text) })
	}
	nested := func(x api.Expr, is bool) string {
		if is {
			return "(" + textOf(x) + ")"
		}
		return textOf(x, bare...)
	}
	var kids []string
	for _, kid := range e.Kids {
		kids = append(kids, textOf(kid))
	}
	quoted, _ := scan.Literal(e.Text)
	switch {
	case e.Kind == api.ExNone:
		return ""
	case e.Kind == api.ExLit:
		return quoted
	case e.Kind == api.ExUn:
		return e.Text + nested(e.Kids[0], e.Kids[0].Kind == api.ExBin)
	case e.Kind == api.ExBin:
		left, right := e.Kids[0], e.Kids[1]
		first := nested(left, left.Kind == api.ExBin && level(left) < level(e))
		second := nested(right, right.Kind == api.ExBin && level(right) <= level(e))
		if e.Text == " " {
			if strings.Contains(`+-\`, second[:1]) {
				second = "(" + textOf(right) + ")"
			}
			return first + " " + second
		}
		return first + " " + e.Text + " " + second
	case slices.Contains(bare, e.Text) && (e.Kind != api.ExCall || e.N == 0):
		return "(" + textOf(e) + ")"
	case e.Kind == api.ExCall && e.N == 1:
		return quoted + "(" + strings.Join(kids, ", ") + ")"
	case e.Kind == api.ExCall:
		return e.Text + "(" + strings.Join(kids, ", ") + ")"
	}
	return e.Text
}

// P5.4: the text of random expressions; P5.3: where words end them, or where their beginning means something else.
func TestRandomTexts(t *testing.T) {
	d := newDice(504)
	for range 6000 {
		b := &builder{dice: d}
		want := b.expr(5)
		src := b.text.String()
		x, code, _, e := syn.ExprOf(src)
		if e != api.OK || !syn.SameExpr(x, want) {
			t.Fatalf("ExprOf of %q: %s, code %d, error %v; want %s", src, exprForm(x), code, e, exprForm(want))
		}
		text, e := syn.ExprText(x)
		if text != textOf(x) || e != api.OK {
			t.Fatalf("ExprText of %q: %q, error %v; want %q", src, text, e, textOf(x))
		}
		words := []string{"TO", "BY", "FOR", "WHILE", "UNTIL"}
		for _, c := range []struct {
			s    api.Stmt
			want string
		}{
			{api.Stmt{Kind: api.StSay, Exprs: []api.Expr{x}}, "SAY " + text},
			{api.Stmt{Kind: api.StIf, Exprs: []api.Expr{x}, Body: []api.Stmt{{Kind: api.StNop}}}, "IF " + textOf(x, "THEN") + " THEN"},
			{api.Stmt{Kind: api.StParse, Word: "VALUE", Exprs: []api.Expr{x}}, "PARSE VALUE " + textOf(x, "WITH") + " WITH"},
			{api.Stmt{Kind: api.StDo, Loop: api.LpCond, Test: 2, Cond: []api.Expr{x}}, "DO UNTIL " + textOf(x, words...)},
			{api.Stmt{Kind: api.StDo, Loop: api.LpCount, Exprs: []api.Expr{x}}, "DO " + guarded(textOf(x, words...), text, "FOREVER")},
			{api.Stmt{Kind: api.StCommand, Exprs: []api.Expr{x}}, guarded(text, text, "SAY", "THEN", "OTHERWISE", "END")},
		} {
			if c.s.Loop == api.LpCount && guarded(text, "") != text && slices.Contains(words, strings.Fields(text)[0]) { // see TestTextReadings
				continue
			}
			if head, e := syn.Head(c.s); head != c.want || e != api.OK {
				t.Fatalf("Head of %s: %q, error %v; want %q", form(c.s), head, e, c.want)
			}
		}
	}
}

// guarded returns text, or in parentheses the other one, if text begins with one of these words, or with a symbol and =.
func guarded(text, other string, words ...string) string {
	tokens, _, _, _ := scan.Tokens(text)
	if tokens[0].Kind == api.TkSymbol && (slices.Contains(words, tokens[0].Text) || tokens[1].Kind == api.TkSign && tokens[1].Text == "=") {
		return "(" + other + ")"
	}
	return text
}

// P5.9.
func TestMinimalParentheses(t *testing.T) {
	d := newDice(509)
	pairs := 0
	for range 8000 {
		b := &builder{dice: d}
		x := b.expr(6)
		text, _ := syn.ExprText(x)
		tokens, _, _, _ := scan.Tokens(text)
		var open []int
		for k, token := range tokens {
			switch {
			case token.Kind != api.TkSign:
			case token.Text == "(" && k > 0 && tokens[k-1].Kind != api.TkSign && tokens[k-1].To == token.At:
				open = append(open, -1)
			case token.Text == "(":
				open = append(open, token.At)
			case token.Text == ")":
				from := open[len(open)-1]
				open = open[:len(open)-1]
				if from < 0 {
					continue
				}
				pairs++
				without := text[:from] + text[from+1:token.At] + text[token.To:]
				if y, _, _, e := syn.ExprOf(without); e == api.OK && syn.SameExpr(x, y) {
					t.Fatalf("%q is that of %q", without, text)
				}
			}
		}
	}
	if pairs < 2000 {
		t.Errorf("only %d pairs", pairs)
	}
}

// relaid returns a source in another layout: comments and blanks in gaps, clauses joined, capital letters.
func relaid(d dice, src string) string {
	tokens, _, _, _ := scan.Tokens(src)
	text, from := "", 0
	for _, x := range tokens {
		text += strings.ToUpper(src[from:x.At])
		if x.Gap && d.in(2) {
			text += d.one(" ", "/* */", "/**/  /*\n'*/", " /* a, */ ")
		}
		part := src[x.At:x.To]
		switch {
		case part == "\n" && d.in(2):
			part = ";"
		case x.Kind != api.TkLiteral:
			part = strings.ToUpper(part)
		}
		text += part
		from = x.To
	}
	return text + src[from:]
}

// P5.10.
func TestLayout(t *testing.T) {
	d := newDice(510)
	for range 4000 {
		src, want := program(d, 6)
		other := relaid(d, src)
		if l := must(t, other); !syn.Same(l, want) {
			t.Fatalf("the statements of %q are not those of %q", other, src)
		}
	}
}

// isContinued reports whether a source ends with a continuation.
func isContinued(src string) bool {
	tokens, _, _, e := scan.Tokens(src + "\nq")
	return e == api.OK && len(tokens) > 2 && tokens[len(tokens)-3].Kind != api.TkEnd
}

// shifted returns statements some lines further down.
func shifted(list []api.Stmt, lines int) []api.Stmt {
	list = slices.Clone(list)
	for k := range list {
		s := &list[k]
		s.Line += lines
		s.Body, s.Else, s.Whens = shifted(s.Body, lines), shifted(s.Else, lines), slices.Clone(s.Whens)
		for j := range s.Whens {
			s.Whens[j].Line += lines
			s.Whens[j].Body = shifted(s.Whens[j].Body, lines)
		}
	}
	return list
}

// P5.11: two programs, one behind the other.
func TestComposition(t *testing.T) {
	d := newDice(511)
	for range 3000 {
		first, l := program(d, 4)
		second, m := program(d, 4)
		if isContinued(first) {
			continue
		}
		both := must(t, first+"\n"+second)
		want := append(slices.Clone(l), shifted(m, 1+strings.Count(first, "\n"))...)
		if forms(both) != forms(want) {
			t.Fatalf("Parse of %q and %q: %s; want %s", first, second, forms(both), forms(want))
		}
	}
}

// P5.11: an error stays, whatever follows; P5.12: its line.
func TestErrorsStay(t *testing.T) {
	d := newDice(5112)
	errors := 0
	for range 12000 {
		src := soup(d)
		if d.in(2) {
			src = broken(d)
		}
		_, code, line, e := syn.Parse(src)
		_, open, _, _ := scan.Tokens(src)
		if e == api.OK || code == 14 || open == 6 || isContinued(src) {
			continue
		}
		errors++
		longer := src + "\n" + d.one("", "then", "else a", "end", "b)", "'", "/*", "#", "when a then b", soup(d))
		if _, code2, line2, e2 := syn.Parse(longer); code2 != code || line2 != line || e2 != e {
			t.Fatalf("Parse of %q: code %d, line %d, error %v; want %d, %d", longer, code2, line2, e2, code, line)
		}
		before, l := program(d, 3)
		if isContinued(before) {
			continue
		}
		last := 0
		for k := range syn.Count(l) {
			s, _ := syn.Nth(l, k)
			last = max(last, s.Line)
		}
		if _, _, line, e := syn.Parse(before + "\n" + src); e == api.ErrCode && line < last {
			t.Fatalf("Parse of %q and %q: line %d, error %v", before, src, line, e)
		}
	}
	if errors < 3000 {
		t.Errorf("only %d sources were errors", errors)
	}
}

// P5.12: lines do not decrease.
func TestLines(t *testing.T) {
	d := newDice(512)
	for range 2000 {
		src, _ := program(d, 5)
		l, line := must(t, src), 1
		for k := range syn.Count(l) {
			s, e := syn.Nth(l, k)
			if e != api.OK || s.Line < line {
				t.Fatalf("Nth %d of %q: %s, error %v", k, src, form(s), e)
			}
			line = s.Line
		}
	}
}
