package syn_test

import (
	"reflect"
	"slices"
	"strings"
	"testing"

	"qanat/api"
	"qanat/syn"
)

// must returns the statements of a source that has no errors.
func must(t *testing.T, src string) []api.Stmt {
	t.Helper()
	l, code, line, e := syn.Parse(src)
	if e != api.OK || code != 0 || line != 0 {
		t.Fatalf("Parse of %q: code %d, line %d, error %v", src, code, line, e)
	}
	return l
}

// checkPrint checks the text of sources; and the head, if there is one statement.
func checkPrint(t *testing.T, list [][2]string) {
	t.Helper()
	for _, c := range list {
		l, code, _, e := syn.Parse(c[0])
		text, e2 := syn.Print(l)
		if e != api.OK || text != c[1] || e2 != api.OK {
			t.Errorf("Print of %q: code %d, %q, error %v; want %q", c[0], code, text, e2, c[1])
		}
		if len(l) == 1 {
			head, e := syn.Head(l[0])
			if want := text[:strings.Index(text, "\n")]; head != want || e != api.OK {
				t.Errorf("Head of %q: %q, error %v; want %q", c[0], head, e, want)
			}
		}
	}
}

// P5.3 and P5.5: the text of every kind of statement.
func TestPrint(t *testing.T) {
	checkPrint(t, [][2]string{
		{"", ""},
		{"x:y:", "X:\nY:\n"},
		{"a=", "A =\n"}, {"a.=b", "A. = B\n"}, {"a.b = (c=d)", "A.B = C = D\n"},
		{"'x'   (y)z", "'x' Y || Z\n"}, {"(say 1)", "(SAY 1)\n"}, {"(say)", "(SAY)\n"}, {"(say(1))", "(SAY(1))\n"}, {"(a = b)", "(A = B)\n"}, {"(a) = b", "(A = B)\n"}, {"(a = b) = c", "(A = B = C)\n"}, {"(1 = b)", "(1 = B)\n"}, {"(1e+5 = b)", "(1E+5 = B)\n"}, {"(a. = b & c | d)", "(A. = B & C | D)\n"}, {"(end) 1 + 2", "(END 1 + 2)\n"}, {"(then)||1", "(THEN || 1)\n"}, {"(when) * -1 = 2", "(WHEN * -1 = 2)\n"},
		{"'say' 1", "'say' 1\n"}, {"a == b", "A == B\n"}, {"a(b) = c", "A(B) = C\n"}, {"a b = c", "A B = C\n"}, {"(a & b) = c", "(A & B) = C\n"}, {"-a = b", "-A = B\n"}, {"-say", "-SAY\n"}, {"'a' = b", "'a' = B\n"}, {"sayit", "SAYIT\n"}, {"say.", "SAY.\n"}, {"(\\say 1)", "\\SAY 1\n"}, {"('say'(1))", "'say'(1)\n"}, {"(to) (forever) with", "TO FOREVER WITH\n"}, {"(say = 1) * 2", "(SAY = 1) * 2\n"},
		{"address", "ADDRESS\n"}, {"address a", "ADDRESS 'A'\n"}, {"address ''", "ADDRESS ''\n"}, {"address \"it's\" (b)", "ADDRESS \"it's\" B\n"}, {"address a -1", "ADDRESS 'A' -1\n"}, {"address value (a)", "ADDRESS VALUE A\n"},
		{"parse upper arg a", "ARG A\n"}, {"arg", "ARG\n"}, {"pull a,", "PULL A\n"}, {"pull a,;", "PULL A, ;\n"}, {"arg ,a", "ARG , A\n"}, {"arg ,;", "ARG , ;\n"}, {"arg ,,,a,,b ,c", "ARG , , , A, , B, C\n"},
		{"call a", "CALL A\n"}, {"call 'A'", "CALL 'A'\n"}, {"call ''", "CALL ''\n"}, {"call a 1", "CALL A 1\n"}, {"call a(1)", "CALL A 1\n"}, {"call a ,;", "CALL A , ;\n"}, {"call a 1,;", "CALL A 1, ;\n"}, {"call a ,1", "CALL A , 1\n"}, {"call a ,,;", "CALL A , , ;\n"}, {"call a 1,,x,,;", "CALL A 1, , X, , ;\n"}, {"call a (b=c),d", "CALL A B = C, D\n"}, {"call 'on' error", "CALL 'on' ERROR\n"}, {"call value x", "CALL VALUE X\n"},
		{"call on error", "CALL ON ERROR\n"}, {"call on halt name x", "CALL ON HALT NAME X\n"}, {"call off halt", "CALL OFF HALT\n"}, {"signal on syntax", "SIGNAL ON SYNTAX\n"}, {"signal on novalue name on", "SIGNAL ON NOVALUE NAME ON\n"}, {"signal off error", "SIGNAL OFF ERROR\n"},
		{"signal a", "SIGNAL 'A'\n"}, {"signal ''", "SIGNAL ''\n"}, {"signal 'value'", "SIGNAL 'value'\n"}, {"signal value a||b", "SIGNAL VALUE A || B\n"},
		{"do;end", "DO\nEND\n"}, {"do forever;end", "DO FOREVER\nEND\n"}, {"do 3;a;end", "DO 3\nA\nEND\n"}, {"do while x;end", "DO WHILE X\nEND\n"}, {"do forever until(x);end", "DO FOREVER UNTIL X\nEND\n"}, {"do a while b;end", "DO A WHILE B\nEND\n"},
		{"do i=1;end i", "DO I = 1\nEND\n"}, {"do a.i=b for c by d to e until f;end", "DO A.I = B FOR C BY D TO E UNTIL F\nEND\n"}, {"do to = (to) to f(to) by (by)(to);end", "DO TO = (TO) TO F(TO) BY (BY) || (TO)\nEND\n"}, {"do i = 1 to 3 while (to);end", "DO I = 1 TO 3 WHILE (TO)\nEND\n"}, {"do i = (forever) = 1; end", "DO I = FOREVER = 1\nEND\n"},
		{"do (to);end", "DO (TO)\nEND\n"}, {"do (a=b);end", "DO (A = B)\nEND\n"}, {"do (a)=b;end", "DO (A = B)\nEND\n"}, {"do (a = to);end", "DO (A = TO)\nEND\n"}, {"do (forever);end", "DO (FOREVER)\nEND\n"}, {"do (forever)||(to);end", "DO (FOREVER || TO)\nEND\n"}, {"do (forever(1));end", "DO (FOREVER(1))\nEND\n"}, {"do a (to(1)) f(to (by)) (to by);end", "DO A (TO(1)) F(TO BY) (TO BY)\nEND\n"}, {"do -(for);end", "DO -(FOR)\nEND\n"}, {"do a == b;end", "DO A == B\nEND\n"}, {"do 'forever';end", "DO 'forever'\nEND\n"}, {"do until (until) then;end", "DO UNTIL (UNTIL) THEN\nEND\n"}, {"do (say);end", "DO SAY\nEND\n"}, {"do until (a=b);end", "DO UNTIL A = B\nEND\n"}, {"do while forever;end", "DO WHILE FOREVER\nEND\n"},
		{"drop a b.(c)(d.e)", "DROP A B. (C) (D.E)\n"}, {"procedure;procedure expose a (b)", "PROCEDURE\nPROCEDURE EXPOSE A (B)\n"},
		{"exit;exit a", "EXIT\nEXIT A\n"}, {"return;return a", "RETURN\nRETURN A\n"}, {"say;say (a)(b)", "SAY\nSAY A || B\n"}, {"push;push a", "PUSH\nPUSH A\n"}, {"queue;queue a", "QUEUE\nQUEUE A\n"}, {"interpret (a)", "INTERPRET A\n"}, {"nop", "NOP\n"}, {"say (a = b)", "SAY A = B\n"}, {"say (say 1)", "SAY SAY 1\n"},
		{"iterate;iterate a.b", "ITERATE\nITERATE A.B\n"}, {"leave;leave i", "LEAVE\nLEAVE I\n"},
		{"if a then b", "IF A THEN\nB\n"}, {"if a then b;else c", "IF A THEN\nB\nELSE\nC\n"}, {"if (then) = f(then) then then = then", "IF (THEN) = F(THEN) THEN\nTHEN = THEN\n"}, {"if (to) (with) then b;else if c then d", "IF TO WITH THEN\nB\nELSE\nIF C THEN\nD\n"}, {"if (then(1)) then;b", "IF (THEN(1)) THEN\nB\n"},
		{"select;when a then b;when (then) then do;end;end", "SELECT\nWHEN A THEN\nB\nWHEN (THEN) THEN\nDO\nEND\nEND\n"}, {"select;when a then b;otherwise end", "SELECT\nWHEN A THEN\nB\nOTHERWISE\nEND\n"}, {"select;when a then b;otherwise c;end = 1;end", "SELECT\nWHEN A THEN\nB\nOTHERWISE\nC\nEND = 1\nEND\n"},
		{"numeric digits;numeric digits a+1", "NUMERIC DIGITS\nNUMERIC DIGITS A + 1\n"}, {"numeric fuzz;numeric fuzz 1", "NUMERIC FUZZ\nNUMERIC FUZZ 1\n"}, {"numeric form;numeric form scientific;numeric form engineering", "NUMERIC FORM\nNUMERIC FORM SCIENTIFIC\nNUMERIC FORM ENGINEERING\n"},
		{"parse arg a;parse linein;parse pull a;parse numeric a;parse source a", "PARSE ARG A\nPARSE LINEIN\nPARSE PULL A\nPARSE NUMERIC A\nPARSE SOURCE A\n"}, {"parse upper linein a", "PARSE UPPER LINEIN A\n"}, {"parse var a b", "PARSE VAR A B\n"}, {"parse upper var a. ,b", "PARSE UPPER VAR A. , B\n"}, {"parse value with", "PARSE VALUE WITH\n"}, {"parse value with a,;", "PARSE VALUE WITH A, ;\n"}, {"parse value (with) f(with) then with with", "PARSE VALUE (WITH) F(WITH) THEN WITH WITH\n"}, {"parse upper value 'a' with b", "PARSE UPPER VALUE 'a' WITH B\n"}, {"parse arg =(a) b", "PARSE ARG =(A) B\n"},
		{"trace;trace r;trace '?r'", "TRACE\nTRACE 'R'\nTRACE '?r'\n"},
		{"say 'it''s';say '\"';say '''\"'; say '4142'x", "SAY \"it's\"\nSAY '\"'\nSAY '''\"'\nSAY 'AB'\n"},
	})
}

// P5.4: the text of expressions.
func TestExprText(t *testing.T) {
	for _, c := range [][2]string{
		{"a", "A"}, {"1.5e+3", "1.5E+3"}, {"a.", "A."}, {"a.b.1", "A.B.1"}, {"''", "''"}, {"'''''\"'", "\"''\"\"\""},
		{"a+b*-c**2", "A + B * -C ** 2"}, {"a b||'c'(1)d", "A B || 'c'(1) || D"}, {"f( a , ,(b))", "F(A, , B)"}, {"f(,)", "F(, )"}, {"f(,,a)", "F(, , A)"}, {"f()", "F()"}, {"'f'()", "'f'()"}, {"1()", "1()"}, {"a><b", "A \\= B"},
		{"(a = b) = c", "A = B = C"}, {"a = (b = c)", "A = (B = C)"}, {"(a+b)*c", "(A + B) * C"}, {"a*(b+c)", "A * (B + C)"}, {"a*(b*c)", "A * (B * C)"}, {"(a*b)*c", "A * B * C"}, {"a-(b+c)", "A - (B + C)"}, {"a+(b*c)", "A + B * C"}, {"(a**b)**c", "A ** B ** C"}, {"a**(b**c)", "A ** (B ** C)"}, {"a&(b|c)", "A & (B | C)"}, {"(a&&b)|c", "A && B | C"}, {"a&&(b|c)", "A && (B | C)"}, {"(a b)(c d)", "A B || (C D)"}, {"a (b||c)", "A (B || C)"}, {"a (b+c)", "A B + C"}, {"(a=b) (c=d)", "(A = B) (C = D)"},
		{"-(a)", "-A"}, {"-(a+b)", "-(A + B)"}, {"-(-a)", "--A"}, {"\\(a=b)", "\\(A = B)"}, {"(-a)**2", "-A ** 2"}, {"-(a**2)", "-(A ** 2)"}, {"-f(-a,\\b)", "-F(-A, \\B)"}, {"a-(-b)", "A - -B"}, {"a||(-b)", "A || -B"}, {"(\\a)b", "\\A || B"},
		{"x (-y)", "X (-Y)"}, {"x (+y)", "X (+Y)"}, {"x (\\y)", "X (\\Y)"}, {"x (-y*z)", "X (-Y * Z)"}, {"x ((-y)**2+z)", "X (-Y ** 2 + Z)"}, {"x (y*-z)", "X Y * -Z"}, {"x ((-y z)*2)", "X (-Y Z) * 2"}, {"x ((y-z)*2)", "X (Y - Z) * 2"}, {"x (-y) (-z)", "X (-Y) (-Z)"}, {"(-x) y", "-X Y"}, {"x||(-y)*z", "X || -Y * Z"}, {"x ((-(y z))*2)", "X (-(Y Z) * 2)"}, {"x (f(-1))", "X F(-1)"}, {"x ('-')", "X '-'"},
		{"((a)=b)", "A = B"}, {"say then to", "SAY THEN TO"}, {"(say) = 1", "SAY = 1"}, {"forever while", "FOREVER WHILE"},
	} {
		x, code, _, e := syn.ExprOf(c[0])
		text, e2 := syn.ExprText(x)
		if e != api.OK || text != c[1] || e2 != api.OK {
			t.Errorf("ExprText of %q: code %d, %q, error %v; want %q", c[0], code, text, e2, c[1])
		}
	}
}

// P5.4: the text of templates.
func TestTmplText(t *testing.T) {
	for _, c := range [][2]string{
		{"", ""}, {"a . 'x' =(n) +3 (b), c.", "A . 'x' =(N) +3 (B), C."}, {"=5 5 +5 -5", "5 5 +5 -5"}, {"(a)=(b)+(c)-(d)", "(A) =(B) +(C) -(D)"}, {",;", ", ;"}, {",,;", ", , ;"}, {"a,;", "A, ;"}, {",a", ", A"}, {"a , b,,c", "A, B, , C"}, {"a.b'it''s'", "A.B \"it's\""}, {"0 +0 007", "0 +0 7"}, {"','", "','"}, {"','.", "',' ."},
	} {
		parts, code, _, e := syn.TmplOf(c[0])
		text, e2 := syn.TmplText(parts)
		if e != api.OK || text != c[1] || e2 != api.OK {
			t.Errorf("TmplText of %q: code %d, %q, error %v; want %q", c[0], code, text, e2, c[1])
		}
	}
}

func lit(s string) api.Expr { return api.Expr{Kind: api.ExLit, Text: s} }

func v(s string) api.Expr { return api.Expr{Kind: api.ExVar, Text: s} }

func bin(left api.Expr, operator string, right api.Expr) api.Expr {
	return api.Expr{Kind: api.ExBin, Text: operator, Kids: []api.Expr{left, right}}
}

func call(name string, kids ...api.Expr) api.Expr {
	return api.Expr{Kind: api.ExCall, Text: name, Kids: kids}
}

// P5.4: expressions and templates that no source has.
func TestTextNot(t *testing.T) {
	none, deep := api.Expr{Kind: api.ExNone}, v("A")
	for range api.MaxNest {
		deep = api.Expr{Kind: api.ExUn, Text: "-", Kids: []api.Expr{deep}}
	}
	for k, x := range []api.Expr{
		{}, none, {Kind: 10, Text: "A"}, {Kind: -1}, v(""), v("a"), v("A."), v("1"), v("A B"), v("A,"), v("A)"), v("A:"), v("A;"), v("A\n"), v("A/**/"), v("\x80"), v("-A"), v("(A)"), v(strings.Repeat("N", api.MaxName+1)), v("'A'"),
		{Kind: api.ExConst, Text: "A"}, {Kind: api.ExConst, Text: "1e+5"}, {Kind: api.ExStem, Text: "A"}, {Kind: api.ExStem, Text: "A.B"}, {Kind: api.ExComp, Text: "A."}, {Kind: api.ExComp, Text: "A"}, {Kind: api.ExVar, Text: "A", N: 1}, {Kind: api.ExVar, Text: "A", Kids: []api.Expr{v("B")}}, {Kind: api.ExLit, Text: "A", N: 1}, {Kind: api.ExLit, Text: "A", Kids: []api.Expr{none}},
		lit("\n"), lit("\x7f"), lit(strings.Repeat("a", api.MaxString+1)),
		{Kind: api.ExBin, Text: "+"}, {Kind: api.ExBin, Text: "+", Kids: []api.Expr{v("A")}}, {Kind: api.ExBin, Text: "+", Kids: []api.Expr{v("A"), v("B"), v("C")}}, {Kind: api.ExBin, Text: "+", N: 1, Kids: []api.Expr{v("A"), v("B")}}, bin(v("A"), "", v("B")), bin(v("A"), "<>", v("B")), bin(v("A"), "\\>", v("B")), bin(v("A"), "(", v("B")), bin(v("A"), ",", v("B")), bin(v("A"), "  ", v("B")), bin(v("A"), "+ ", v("B")), bin(v("A"), "+", none), bin(none, "+", v("A")), bin(v("A"), "\\", v("B")),
		{Kind: api.ExUn, Text: "-"}, {Kind: api.ExUn, Text: "-", Kids: []api.Expr{v("A"), v("B")}}, {Kind: api.ExUn, Text: "*", Kids: []api.Expr{v("A")}}, {Kind: api.ExUn, Text: "", Kids: []api.Expr{v("A")}}, {Kind: api.ExUn, Text: "-", N: 1, Kids: []api.Expr{v("A")}}, {Kind: api.ExUn, Text: "-", Kids: []api.Expr{none}}, {Kind: api.ExUn, Text: "--", Kids: []api.Expr{v("A")}},
		call("f"), call(""), call("F", none), call("F", api.Expr{}), call("A B"), {Kind: api.ExCall, Text: "F", N: 2}, {Kind: api.ExCall, Text: "F", N: -1}, {Kind: api.ExCall, Text: "\n", N: 1}, call("F", slices.Repeat([]api.Expr{v("A")}, api.MaxArgs+1)...), call("F", api.Expr{Kind: api.ExNone, Text: "A"}, v("A")), call("F", api.Expr{Kind: api.ExNone, N: 1}, v("A")),
		deep, bin(v("A"), "+", lit("\t")),
	} {
		if text, e := syn.ExprText(x); text != "" || e != api.ErrForm {
			t.Errorf("ExprText of expression %d (%v): %q, error %v", k, x, text, e)
		}
	}
	for k, parts := range [][]api.Part{
		{{}}, {{Kind: 12}}, {{Kind: -1}}, {{Kind: api.TpVar}}, {{Kind: api.TpVar, Text: "a"}}, {{Kind: api.TpVar, Text: "1"}}, {{Kind: api.TpVar, Text: "A B"}}, {{Kind: api.TpVar, Text: "A", N: 1}}, {{Kind: api.TpDot, Text: "."}}, {{Kind: api.TpDot, N: 1}}, {{Kind: api.TpLit, Text: "\n"}}, {{Kind: api.TpLit, Text: "A", N: 1}}, {{Kind: api.TpLitVar, Text: "A."}}, {{Kind: api.TpLitVar}}, {{Kind: api.TpLitVar, Text: "1"}}, {{Kind: api.TpAbs, N: -1}}, {{Kind: api.TpAbs, N: api.MaxColumn + 1}}, {{Kind: api.TpAbs, Text: "5"}}, {{Kind: api.TpPlus, N: -1}}, {{Kind: api.TpMinus, N: -5}}, {{Kind: api.TpPlus, N: api.MaxColumn + 1}}, {{Kind: api.TpAbsVar, Text: "A.B"}}, {{Kind: api.TpPlusVar, Text: ""}}, {{Kind: api.TpMinusVar, Text: "A", N: 1}}, {{Kind: api.TpComma, Text: ","}}, {{Kind: api.TpComma, N: 1}}, {{Kind: api.TpVar, Text: "A;"}}, {{Kind: api.TpVar, Text: "A,"}}, slices.Repeat([]api.Part{{Kind: api.TpDot}}, api.MaxParts+1),
	} {
		if text, e := syn.TmplText(parts); text != "" || e != api.ErrForm {
			t.Errorf("TmplText of template %d: %q, error %v", k, text, e)
		}
	}
}

// P5.3: statements that no program has.
func TestPrintNot(t *testing.T) {
	a, nop, say := []api.Expr{v("A")}, []api.Stmt{{Kind: api.StNop}}, []api.Stmt{{Kind: api.StSay}}
	label := []api.Stmt{{Kind: api.StLabel, Name: "X"}}
	open := api.Stmt{Kind: api.StIf, Exprs: a, Body: nop}
	for k, s := range []api.Stmt{
		{}, {Kind: 26}, {Kind: -1}, {Kind: api.StLabel}, {Kind: api.StLabel, Name: "x"}, {Kind: api.StLabel, Name: "X Y"}, {Kind: api.StLabel, Name: "X", N: 1}, {Kind: api.StLabel, Name: "X", Body: nop}, {Kind: api.StLabel, Name: "X:\nY"},
		{Kind: api.StAssign, Name: "1", Exprs: a}, {Kind: api.StAssign, Exprs: a}, {Kind: api.StAssign, Name: "A", Exprs: []api.Expr{v("A"), v("B")}}, {Kind: api.StAssign, Name: "A", Exprs: []api.Expr{{Kind: api.ExNone}}}, {Kind: api.StAssign, Name: "A", Exprs: []api.Expr{v("A,")}}, {Kind: api.StAssign, Name: "A", Word: "B"},
		{Kind: api.StAddress, Name: "A"}, {Kind: api.StAddress, N: 1, Exprs: a}, {Kind: api.StAddress, N: 2, Name: "A"}, {Kind: api.StAddress, N: 3}, {Kind: api.StAddress, N: 3, Name: "A", Exprs: a}, {Kind: api.StAddress, N: 4, Exprs: a}, {Kind: api.StAddress, N: 1, Name: "\n"},
		{Kind: api.StCall}, {Kind: api.StCall, Name: "A."}, {Kind: api.StCall, Name: "ON"}, {Kind: api.StCall, Name: "A", N: 2}, {Kind: api.StCall, Name: "A", Exprs: []api.Expr{{Kind: api.ExNone}}}, {Kind: api.StCall, Name: "A", Exprs: slices.Repeat(a, api.MaxArgs+1)},
		{Kind: api.StCallOn, Word: "SYNTAX", N: 1}, {Kind: api.StCallOn, Word: "HALT", Name: "X"}, {Kind: api.StCallOn, Word: "HALT", N: 2}, {Kind: api.StCallOn, N: 1}, {Kind: api.StSignalOn, Word: "ANY"}, {Kind: api.StSignalOn, Word: "HALT", N: 1, Name: "X."},
		{Kind: api.StDo, Loop: api.LpForever, Exprs: a}, {Kind: api.StDo, Loop: api.LpCount}, {Kind: api.StDo, Loop: api.LpOver, Name: "A."}, {Kind: api.StDo, Loop: api.LpOver, Name: "A", Exprs: a, Reps: []api.Rep{{Kind: 1, Expr: a[0]}, {Kind: 1, Expr: a[0]}}}, {Kind: api.StDo, Loop: api.LpOver, Name: "A", Exprs: a, Reps: []api.Rep{{Kind: 4, Expr: a[0]}}}, {Kind: api.StDo, Loop: api.LpCond}, {Kind: api.StDo, Loop: 5}, {Kind: api.StDo, Test: 1, Cond: a}, {Kind: api.StDo, Loop: api.LpForever, Test: 3, Cond: a}, {Kind: api.StDo, Loop: api.LpForever, Test: -1, Cond: a}, {Kind: api.StDo, Loop: api.LpForever, Cond: a}, {Kind: api.StDo, Loop: api.LpForever, Test: 1}, {Kind: api.StDo, Body: label}, {Kind: api.StDo, Else: nop}, {Kind: api.StDo, Name: "I"}, {Kind: api.StDo, Loop: api.LpCount, Exprs: a, Reps: []api.Rep{{Kind: 1, Expr: a[0]}}},
		{Kind: api.StDrop}, {Kind: api.StDrop, Items: []api.Item{{Name: "1"}}}, {Kind: api.StDrop, Items: []api.Item{{Name: ""}}}, {Kind: api.StDrop, Items: []api.Item{{Name: "1", Via: true}}}, {Kind: api.StDrop, Items: []api.Item{{Name: "A B"}}}, {Kind: api.StDrop, Items: []api.Item{{Name: "(A)"}}},
		{Kind: api.StIf, Exprs: a}, {Kind: api.StIf, Body: nop}, {Kind: api.StIf, Exprs: a, Body: append(nop, say...)}, {Kind: api.StIf, Exprs: a, Body: nop, Else: append(nop, say...)}, {Kind: api.StIf, Exprs: a, Body: []api.Stmt{open}, Else: nop}, {Kind: api.StIf, Exprs: a, Body: label}, {Kind: api.StIf, Exprs: a, Body: []api.Stmt{{Kind: api.StProcedure}}}, {Kind: api.StIf, Exprs: a, Else: nop}, {Kind: api.StIf, Exprs: a, Body: nop, N: 1},
		{Kind: api.StInterpret}, {Kind: api.StIterate, Name: "1"}, {Kind: api.StLeave, Name: "A", Exprs: a}, {Kind: api.StNop, N: 1}, {Kind: api.StNop, Exprs: a}, {Kind: api.StNop, Name: "A"}, {Kind: api.StSay, Name: "A"}, {Kind: api.StSay, Exprs: append(a, a...)}, {Kind: api.StSay, Tmpl: []api.Part{{Kind: api.TpDot}}}, {Kind: api.StSay, Items: []api.Item{{Name: "A"}}}, {Kind: api.StSay, Cond: a}, {Kind: api.StSay, Reps: []api.Rep{{}}}, {Kind: api.StSay, Whens: []api.When{{}}}, {Kind: api.StSay, Loop: 1}, {Kind: api.StSay, Test: 1},
		{Kind: api.StNumeric, N: 3}, {Kind: api.StNumeric, N: -1}, {Kind: api.StNumeric, Word: "DIGITS"}, {Kind: api.StNumeric, N: 2, Exprs: a}, {Kind: api.StNumeric, N: 2, Word: "FIXED"},
		{Kind: api.StParse}, {Kind: api.StParse, Word: "ARG", N: 2}, {Kind: api.StParse, Word: "VAR"}, {Kind: api.StParse, Word: "VAR", Name: "1"}, {Kind: api.StParse, Word: "ARG", Name: "A"}, {Kind: api.StParse, Word: "ARG", Exprs: a}, {Kind: api.StParse, Word: "VALUE", Exprs: append(a, a...)}, {Kind: api.StParse, Word: "ARG", Tmpl: []api.Part{{}}}, {Kind: api.StParse, Word: "UPPER ARG"},
		{Kind: api.StProcedure, N: 1}, {Kind: api.StProcedure, Items: []api.Item{{Name: "A"}}}, {Kind: api.StProcedure, N: 2, Items: []api.Item{{Name: "A"}}},
		{Kind: api.StSelect}, {Kind: api.StSelect, N: 1, Else: nop}, {Kind: api.StSelect, Whens: []api.When{{Cond: a[0]}}}, {Kind: api.StSelect, Whens: []api.When{{Body: nop}}}, {Kind: api.StSelect, Whens: []api.When{{Cond: a[0], Body: append(nop, nop...)}}}, {Kind: api.StSelect, Whens: []api.When{{Cond: a[0], Body: nop}}, Else: nop}, {Kind: api.StSelect, N: 2, Whens: []api.When{{Cond: a[0], Body: nop}}},
		{Kind: api.StSignal, N: 1}, {Kind: api.StSignal, N: 2, Exprs: a}, {Kind: api.StSignal, Name: "A", Exprs: a}, {Kind: api.StTrace, Word: "\n"}, {Kind: api.StTrace, N: 1}, {Kind: api.StCommand}, {Kind: api.StCommand, Exprs: append(a, a...)}, {Kind: api.StCommand, Exprs: []api.Expr{{}}},
	} {
		if text, e := syn.Print([]api.Stmt{s}); text != "" || e != api.ErrForm {
			t.Errorf("Print of statement %d (%v): %q, error %v", k, s, text, e)
		}
		if head, e := syn.Head(s); head != "" || e != api.ErrForm {
			t.Errorf("Head of statement %d: %q, error %v", k, head, e)
		}
	}
	if text, e := syn.Print(slices.Repeat(nop, api.MaxClauses+1)); text != "" || e != api.ErrForm {
		t.Errorf("Print of too many statements: %q, error %v", text, e)
	}
}

// P5.3 and P5.4: texts that are just not too long, and too long; those are ErrLimit, whatever else is wrong.
func TestTextLimit(t *testing.T) {
	long := lit(strings.Repeat("a", api.MaxString))
	tree := func(last int) api.Expr {
		return call("F", call("G", slices.Repeat([]api.Expr{long}, 10)...), call("H", slices.Repeat([]api.Expr{long}, 9)...), lit(strings.Repeat("b", last)))
	}
	template := func(last int) []api.Part {
		return append(slices.Repeat([]api.Part{{Kind: api.TpLit, Text: long.Text}}, 19), api.Part{Kind: api.TpLit, Text: strings.Repeat("b", last)})
	}
	shortExpr, _ := syn.ExprText(tree(0))
	shortTmpl, _ := syn.TmplText(template(0))
	toExpr, toTmpl := api.MaxSource-len(shortExpr), api.MaxSource-len(shortTmpl)
	if text, e := syn.ExprText(tree(toExpr)); len(text) != api.MaxSource || e != api.OK {
		t.Errorf("ExprText of the longest text: %d, error %v", len(text), e)
	}
	if text, e := syn.TmplText(template(toTmpl)); len(text) != api.MaxSource || e != api.OK {
		t.Errorf("TmplText of the longest text: %d, error %v", len(text), e)
	}
	broken := tree(toExpr + 1)
	broken.N = 7
	for k, x := range []api.Expr{tree(toExpr + 1), tree(api.MaxString), broken, call("F", call("F", tree(0).Kids...), tree(0))} {
		if text, e := syn.ExprText(x); text != "" || e != api.ErrLimit {
			t.Errorf("ExprText of long text %d: %d, error %v", k, len(text), e)
		}
	}
	for k, parts := range [][]api.Part{template(toTmpl + 1), template(api.MaxString), append(template(toTmpl), api.Part{Kind: api.TpComma}), slices.Repeat([]api.Part{{Kind: api.TpDot}}, api.MaxSource)} {
		if text, e := syn.TmplText(parts); text != "" || e != api.ErrLimit {
			t.Errorf("TmplText of long text %d: %d, error %v", k, len(text), e)
		}
	}
	most := slices.Repeat([]api.Stmt{{Kind: api.StSay, Exprs: []api.Expr{lit(strings.Repeat("a", 1000-len("SAY ''\n")))}}}, 20)
	if text, e := syn.Print(most); len(text) != api.MaxSource || e != api.OK {
		t.Errorf("Print of the longest text: %d, error %v", len(text), e)
	}
	for _, s := range []api.Stmt{{Kind: api.StNop}, {Kind: api.StNop, N: 1}, {}} {
		if text, e := syn.Print(append(slices.Clone(most), s)); text != "" || e != api.ErrLimit {
			t.Errorf("Print of a text that is too long: %d, error %v", len(text), e)
		}
	}
	body := api.Stmt{Kind: api.StDo, Body: most}
	if text, e := syn.Head(body); text != "" || e != api.ErrLimit {
		t.Errorf("Head of a text that is too long: %q, error %v", text, e)
	}
	src := strings.Repeat("a'b'", api.MaxNest/2)
	src = strings.Repeat("say "+src+"\n", api.MaxSource/(len(src)+5))
	if text, e := syn.Print(must(t, src)); text != "" || e != api.ErrLimit {
		t.Errorf("Print of a program with a text that is too long: %q, error %v", text, e)
	}
}

// P5.4: trees of any size have a text, or none, soon.
func TestHugeTrees(t *testing.T) {
	left, right, prefix := v("A"), v("A"), v("A")
	wide := call("F", v("A"))
	body := api.Stmt{Kind: api.StNop}
	for range 1 << 16 {
		left, right = bin(left, " ", v("B")), bin(v("B"), " ", right)
		prefix = api.Expr{Kind: api.ExUn, Text: "-", Kids: []api.Expr{prefix}}
		body = api.Stmt{Kind: api.StDo, Body: []api.Stmt{body}}
	}
	for range 60 {
		wide = call("F", wide, wide)
	}
	for k, x := range []api.Expr{left, right, prefix, wide} {
		if text, e := syn.ExprText(x); text != "" || e != api.ErrLimit {
			t.Errorf("ExprText of tree %d: %d, error %v", k, len(text), e)
		}
	}
	if text, e := syn.Print([]api.Stmt{body}); text != "" || e != api.ErrLimit {
		t.Errorf("Print of a deep statement: %d, error %v", len(text), e)
	}
	if n := syn.Count([]api.Stmt{body}); n != 1<<16+1 {
		t.Errorf("Count of a deep statement: %d", n)
	}
	if !syn.SameExpr(left, left) || syn.SameExpr(left, right) {
		t.Error("SameExpr of deep trees")
	}
}

// P5.6: a change of any field is seen, except for lines; also in bodies.
func TestSame(t *testing.T) {
	sample := func() []api.Stmt {
		return must(t, "do i = 1 to 2 while a(b); say; drop a; parse arg a; end\nselect; when a then b; otherwise c; end\nif a then b; else c")
	}
	if !syn.Same(sample(), sample()) || !syn.Same(nil, nil) || !syn.Same(nil, []api.Stmt{}) || syn.Same(sample(), nil) {
		t.Error("Same of equal lists, or of others")
	}
	for k, change := range []func(l []api.Stmt){
		func(l []api.Stmt) { l[0].Kind++ }, func(l []api.Stmt) { l[0].Name = "J" }, func(l []api.Stmt) { l[0].Word = "J" }, func(l []api.Stmt) { l[0].N++ }, func(l []api.Stmt) { l[0].Loop++ }, func(l []api.Stmt) { l[0].Test++ },
		func(l []api.Stmt) { l[0].Exprs[0].Text = "2" }, func(l []api.Stmt) { l[0].Exprs[0].Kind++ }, func(l []api.Stmt) { l[0].Exprs[0].N++ }, func(l []api.Stmt) { l[0].Exprs = nil }, func(l []api.Stmt) { l[0].Exprs = append(l[0].Exprs, api.Expr{}) },
		func(l []api.Stmt) { l[0].Cond[0].Kids[0].Text = "C" }, func(l []api.Stmt) { l[0].Cond[0].Kids = nil }, func(l []api.Stmt) { l[0].Cond = nil },
		func(l []api.Stmt) { l[0].Reps[0].Kind++ }, func(l []api.Stmt) { l[0].Reps[0].Expr.Text = "3" }, func(l []api.Stmt) { l[0].Reps = nil },
		func(l []api.Stmt) { l[0].Body[0].N++ }, func(l []api.Stmt) { l[0].Body = l[0].Body[:1] }, func(l []api.Stmt) { l[0].Body[1].Items[0].Via = true }, func(l []api.Stmt) { l[0].Body[1].Items[0].Name = "B" }, func(l []api.Stmt) { l[0].Body[1].Items = nil }, func(l []api.Stmt) { l[0].Body[2].Tmpl[0].N++ }, func(l []api.Stmt) { l[0].Body[2].Tmpl[0].Kind++ }, func(l []api.Stmt) { l[0].Body[2].Tmpl[0].Text = "B" }, func(l []api.Stmt) { l[0].Body[2].Tmpl = nil },
		func(l []api.Stmt) { l[1].Whens[0].Cond.Text = "B" }, func(l []api.Stmt) { l[1].Whens[0].Body[0].N++ }, func(l []api.Stmt) { l[1].Whens[0].Body = nil }, func(l []api.Stmt) { l[1].Whens = nil }, func(l []api.Stmt) { l[1].Else[0].N++ }, func(l []api.Stmt) { l[2].Else = nil }, func(l []api.Stmt) { l[1], l[2] = l[2], l[1] },
	} {
		l := sample()
		change(l)
		if syn.Same(l, sample()) || syn.Same(sample(), l) {
			t.Errorf("Same accepts change %d", k)
		}
	}
	for k, change := range []func(l []api.Stmt){
		func(l []api.Stmt) { l[0].Line = 9 }, func(l []api.Stmt) { l[0].Body[0].Line = 9 }, func(l []api.Stmt) { l[1].Whens[0].Line = 9 }, func(l []api.Stmt) { l[1].Whens[0].Body[0].Line = 9 }, func(l []api.Stmt) {
			l[0].Tmpl, l[0].Else, l[0].Cond[0].Kids[0].Kids = []api.Part{}, []api.Stmt{}, []api.Expr{}
		},
	} {
		l := sample()
		change(l)
		if !syn.Same(l, sample()) || !syn.Same(sample(), l) {
			t.Errorf("Same refuses change %d", k)
		}
	}
	x, y := call("F", v("A"), lit("a")), call("F", v("A"), lit("a"))
	if !syn.SameExpr(x, y) || syn.SameExpr(x, call("F", v("A"))) || syn.SameExpr(x, call("G", v("A"), lit("a"))) || syn.SameExpr(x, call("F", v("A"), lit("b"))) || !syn.SameExpr(call("F"), api.Expr{Kind: api.ExCall, Text: "F", Kids: []api.Expr{}}) {
		t.Error("SameExpr")
	}
}

// P5.7: the order of the text, and new memory.
func TestNth(t *testing.T) {
	src := "a;do;b;do;c;end;d;end;select;when e then f;when g then if h then i;else j;otherwise k;l;end;if m then n;else do;o;end;x:"
	l := must(t, src)
	want := []string{"(A)", "DO", "B", "DO", "C", "D", "SELECT", "F", "IF H THEN", "I", "J", "K", "L", "IF M THEN", "N", "DO", "O", "X:"}
	want[0] = "A"
	if n := syn.Count(l); n != len(want) {
		t.Errorf("Count: %d; want %d", n, len(want))
	}
	if n := syn.Count(nil); n != 0 {
		t.Errorf("Count of nothing: %d", n)
	}
	kept := must(t, src)
	for k, head := range want {
		s, e := syn.Nth(l, k)
		if got, _ := syn.Head(s); e != api.OK || got != head {
			t.Errorf("Nth %d: %q, error %v; want %q", k, got, e, head)
		}
		spoil(&s)
	}
	if !reflect.DeepEqual(l, kept) {
		t.Error("the statements of Nth are not new")
	}
	for _, n := range []int{-1, len(want), len(want) + 1, -1 << 63, 1<<63 - 1} {
		if s, e := syn.Nth(l, n); !reflect.DeepEqual(s, api.Stmt{}) || e != api.ErrNone {
			t.Errorf("Nth %d: %v, error %v", n, s, e)
		}
	}
	if _, e := syn.Nth(nil, 0); e != api.ErrNone {
		t.Errorf("Nth of nothing: error %v", e)
	}
	whole := must(t, "do i = f(a) to g(b) while h(c); drop d; parse arg e; end")
	s, _ := syn.Nth(whole, 0)
	if !reflect.DeepEqual(s, whole[0]) {
		t.Errorf("Nth 0: %s; want %s", form(s), form(whole[0]))
	}
	spoil(&s)
	if again := must(t, "do i = f(a) to g(b) while h(c); drop d; parse arg e; end"); !reflect.DeepEqual(whole, again) {
		t.Error("the statement of Nth is not new")
	}
}

// spoil changes everything to which a statement refers.
func spoil(s *api.Stmt) {
	for _, list := range [][]api.Expr{s.Exprs, s.Cond} {
		for k := range list {
			spoilExpr(&list[k])
		}
	}
	for k := range s.Items {
		s.Items[k].Name = "?"
	}
	for k := range s.Tmpl {
		s.Tmpl[k].Text = "?"
	}
	for k := range s.Reps {
		s.Reps[k].Kind = 99
		spoilExpr(&s.Reps[k].Expr)
	}
	for k := range s.Whens {
		s.Whens[k].Line = 99
		spoilExpr(&s.Whens[k].Cond)
		for j := range s.Whens[k].Body {
			spoil(&s.Whens[k].Body[j])
		}
	}
	for _, list := range [][]api.Stmt{s.Body, s.Else} {
		for k := range list {
			spoil(&list[k])
			list[k].Kind = 99
		}
	}
}

func spoilExpr(e *api.Expr) {
	e.Text = "?"
	for k := range e.Kids {
		spoilExpr(&e.Kids[k])
	}
}
