package syn_test

import (
	"strings"
	"testing"

	"qanat/api"
	"qanat/syn"
)

// checkParse parses sources whose statements are told in the short form.
func checkParse(t *testing.T, list [][2]string) {
	t.Helper()
	for _, c := range list {
		l, code, line, e := syn.Parse(c[0])
		if e != api.OK || code != 0 || line != 0 || forms(l) != c[1] {
			t.Errorf("Parse of %q: %s, code %d, line %d, error %v; want %s", c[0], forms(l), code, line, e, c[1])
		}
	}
}

// P5.1: every clause of R8.
func TestParse(t *testing.T) {
	checkParse(t, [][2]string{
		{"", "{}"},
		{" ;;\n/* a */;", "{}"},
		// Assignments, labels and commands.
		{"a=1", "{1:assign name=A exprs=#1}"},
		{"a =", "{1:assign name=A}"},
		{"a. = b.1.c", "{1:assign name=A. exprs=*B.1.C}"},
		{"a.b = a.", "{1:assign name=A.B exprs=A.}"},
		{"say = 1; then = 2; end = 3", "{1:assign name=SAY exprs=#1; 1:assign name=THEN exprs=#2; 1:assign name=END exprs=#3}"},
		{"a == b", "{1:command exprs=(A == B)}"},
		{"a\\= b", "{1:command exprs=(A \\= B)}"},
		{"x: y :z: 1.5: say:", "{1:label name=X; 1:label name=Y; 1:label name=Z; 1:label name=1.5; 1:label name=SAY}"},
		{"'say' 1", "{1:command exprs=('say'   #1)}"},
		{"(say) 1", "{1:command exprs=(SAY   #1)}"},
		{"say(1)", "{1:say exprs=#1}"},
		{"sayit 1", "{1:command exprs=(SAYIT   #1)}"},
		{"say.1 2", "{1:command exprs=(*SAY.1   #2)}"},
		{"to; with; forever", "{1:command exprs=TO; 1:command exprs=WITH; 1:command exprs=FOREVER}"},
		{"-a", "{1:command exprs=(-A)}"},
		{"'a' = 1", "{1:command exprs=('a' = #1)}"},
		// Instructions in the order of R8.
		{"address", "{1:address}"},
		{"address a", "{1:address name=A n=1}"},
		{"address 'a b'", "{1:address name=a b n=1}"},
		{"address ''", "{1:address n=1}"},
		{"address a 'x' y", "{1:address name=A n=2 exprs=('x'   Y)}"},
		{"address a-1", "{1:address name=A n=2 exprs=(-#1)}"},
		{"address a(1)", "{1:address name=A n=2 exprs=#1}"},
		{"address 'a''b'", "{1:address name=a'b n=1}"},
		{"address value a b", "{1:address n=3 exprs=(A   B)}"},
		{"address 'VALUE'", "{1:address name=VALUE n=1}"},
		{"arg", "{1:parse word=ARG n=1}"},
		{"arg a, b", "{1:parse word=ARG n=1 tmpl=var:A comma var:B}"},
		{"pull a", "{1:parse word=PULL n=1 tmpl=var:A}"},
		{"arg = 1", "{1:assign name=ARG exprs=#1}"},
		{"call a", "{1:call name=A}"},
		{"call 'a'", "{1:call name=a n=1}"},
		{"call a 1", "{1:call name=A exprs=#1}"},
		{"call a ,", "{1:call name=A}"},
		{"call a ,;", "{1:call name=A exprs=_,_}"},
		{"call a 1,;", "{1:call name=A exprs=#1,_}"},
		{"call a ,,b c,", "{1:call name=A exprs=_,_,(B   C)}"},
		{"call a(1) 2", "{1:call name=A exprs=(#1   #2)}"},
		{"call value x", "{1:call name=VALUE exprs=X}"},
		{"call a 1,2,3,4,5,6,7,8,9,;", "{1:call name=A exprs=#1,#2,#3,#4,#5,#6,#7,#8,#9,_}"},
		{"call 'on' error", "{1:call name=on n=1 exprs=ERROR}"},
		{"call on error; call on failure; call on halt; call on notready", "{1:callon word=ERROR n=1; 1:callon word=FAILURE n=1; 1:callon word=HALT n=1; 1:callon word=NOTREADY n=1}"},
		{"call on halt name x", "{1:callon name=X word=HALT n=1}"},
		{"call off halt", "{1:callon word=HALT}"},
		{"drop a", "{1:drop item=A}"},
		{"drop a b. c.d(e) (f.)(g.h)i", "{1:drop item=A item=B. item=C.D item=(E) item=(F.) item=(G.H) item=I}"},
		{"exit; exit 1", "{1:exit; 1:exit exprs=#1}"},
		{"return; return a b", "{1:return; 1:return exprs=(A   B)}"},
		{"say; say 'a'", "{1:say; 1:say exprs='a'}"},
		{"push; push -1", "{1:push; 1:push exprs=(-#1)}"},
		{"queue; queue (a)", "{1:queue; 1:queue exprs=A}"},
		{"interpret 'say' 1", "{1:interpret exprs=('say'   #1)}"},
		{"iterate; iterate i; iterate a.b; iterate a.", "{1:iterate; 1:iterate name=I; 1:iterate name=A.B; 1:iterate name=A.}"},
		{"leave; leave i", "{1:leave; 1:leave name=I}"},
		{"nop", "{1:nop}"},
		{"numeric digits; numeric digits 5", "{1:numeric; 1:numeric exprs=#5}"},
		{"numeric fuzz; numeric fuzz a+1", "{1:numeric n=1; 1:numeric n=1 exprs=(A + #1)}"},
		{"numeric form; numeric form scientific; numeric form engineering", "{1:numeric n=2; 1:numeric word=SCIENTIFIC n=2; 1:numeric word=ENGINEERING n=2}"},
		{"parse arg", "{1:parse word=ARG}"},
		{"parse upper arg a", "{1:parse word=ARG n=1 tmpl=var:A}"},
		{"parse linein a; parse pull a; parse numeric a; parse source a", "{1:parse word=LINEIN tmpl=var:A; 1:parse word=PULL tmpl=var:A; 1:parse word=NUMERIC tmpl=var:A; 1:parse word=SOURCE tmpl=var:A}"},
		{"parse upper linein a", "{1:parse word=LINEIN n=1 tmpl=var:A}"},
		{"parse var x a", "{1:parse name=X word=VAR tmpl=var:A}"},
		{"parse var x. a; parse var x.y", "{1:parse name=X. word=VAR tmpl=var:A; 1:parse name=X.Y word=VAR}"},
		{"parse value with a", "{1:parse word=VALUE tmpl=var:A}"},
		{"parse value with", "{1:parse word=VALUE}"},
		{"parse upper value a b with c with", "{1:parse word=VALUE n=1 exprs=(A   B) tmpl=var:C var:WITH}"},
		{"parse value (with) f(with) with a", "{1:parse word=VALUE exprs=(WITH   F[WITH]) tmpl=var:A}"},
		{"procedure", "{1:procedure}"},
		{"procedure expose a (b)", "{1:procedure n=1 item=A item=(B)}"},
		{"signal a; signal 'a b'; signal ''", "{1:signal name=A; 1:signal name=a b; 1:signal}"},
		{"signal value a", "{1:signal n=1 exprs=A}"},
		{"signal on syntax; signal on novalue; signal on error; signal on failure; signal on halt; signal on notready", "{1:signalon word=SYNTAX n=1; 1:signalon word=NOVALUE n=1; 1:signalon word=ERROR n=1; 1:signalon word=FAILURE n=1; 1:signalon word=HALT n=1; 1:signalon word=NOTREADY n=1}"},
		{"signal on syntax name on", "{1:signalon name=ON word=SYNTAX n=1}"},
		{"signal off novalue", "{1:signalon word=NOVALUE}"},
		{"trace; trace r; trace 'r'; trace ''; trace 1", "{1:trace; 1:trace word=R; 1:trace word=r; 1:trace; 1:trace word=1}"},
	})
}

// P5.1: statements with bodies, and the lines of statements.
func TestParseBlocks(t *testing.T) {
	checkParse(t, [][2]string{
		{"do; end", "{1:do}"},
		{"do\n\n;end;", "{1:do}"},
		{"do; a; b; end; c", "{1:do body={1:command exprs=A; 1:command exprs=B}; 1:command exprs=C}"},
		{"do forever; end", "{1:do loop=1}"},
		{"do forever while a; end", "{1:do loop=1 test=1 cond=A}"},
		{"do 3; end", "{1:do loop=2 exprs=#3}"},
		{"do a b until c d; end", "{1:do loop=2 exprs=(A   B) test=2 cond=(C   D)}"},
		{"do (to); end", "{1:do loop=2 exprs=TO}"},
		{"do f(to, while); end", "{1:do loop=2 exprs=F[TO,WHILE]}"},
		{"do while a; end", "{1:do loop=4 test=1 cond=A}"},
		{"do until (until) then forever; end", "{1:do loop=4 test=2 cond=((UNTIL   THEN)   FOREVER)}"},
		{"do i=1; end", "{1:do name=I loop=3 exprs=#1}"},
		{"do i = 1 to 3 by 2 for 4; end i", "{1:do name=I loop=3 exprs=#1 to=#3 by=#2 for=#4}"},
		{"do i = a b for c by d to e while f; end", "{1:do name=I loop=3 exprs=(A   B) for=C by=D to=E test=1 cond=F}"},
		{"do a.i = 1 until x = 2; end A.I", "{1:do name=A.I loop=3 exprs=#1 test=2 cond=(X = #2)}"},
		{"do to = 1 to (to); end to", "{1:do name=TO loop=3 exprs=#1 to=TO}"},
		{"do while = 1 by 2; end while; do forever = 1; end forever", "{1:do name=WHILE loop=3 exprs=#1 by=#2; 1:do name=FOREVER loop=3 exprs=#1}"},
		{"do a == 1; end", "{1:do loop=2 exprs=(A == #1)}"},
		{"do; end = 1; end", "{1:do body={1:assign name=END exprs=#1}}"},
		{"do; do; end; do i = 1; end; end", "{1:do body={1:do; 1:do name=I loop=3 exprs=#1}}"},
		{"if a then b", "{1:if exprs=A body={1:command exprs=B}}"},
		{"if a then b; else c", "{1:if exprs=A body={1:command exprs=B} else={1:command exprs=C}}"},
		{"if a b = c then;;d;;else;;\ne", "{1:if exprs=((A   B) = C) body={1:command exprs=D} else={2:command exprs=E}}"},
		{"if a\n\nthen\n\nb\n\nelse\n\nc\nd", "{1:if exprs=A body={5:command exprs=B} else={9:command exprs=C}; 10:command exprs=D}"},
		{"if (then) f(then) then then = 1", "{1:if exprs=(THEN   F[THEN]) body={1:assign name=THEN exprs=#1}}"},
		{"if a then if b then c; else d", "{1:if exprs=A body={1:if exprs=B body={1:command exprs=C} else={1:command exprs=D}}}"},
		{"if a then if b then c; else d; else e", "{1:if exprs=A body={1:if exprs=B body={1:command exprs=C} else={1:command exprs=D}} else={1:command exprs=E}}"},
		{"if a then b else c", "{1:if exprs=A body={1:command exprs=((B   ELSE)   C)}}"},
		{"if a then do; b; end; else if c then d; e", "{1:if exprs=A body={1:do body={1:command exprs=B}} else={1:if exprs=C body={1:command exprs=D}}; 1:command exprs=E}"},
		{"if a then b = 1; else c = 2", "{1:if exprs=A body={1:assign name=B exprs=#1} else={1:assign name=C exprs=#2}}"},
		{"if a then else = 1; else then = 1", "{1:if exprs=A body={1:assign name=ELSE exprs=#1} else={1:assign name=THEN exprs=#1}}"},
		{"select; when a then b; end", "{1:select when=1:A {1:command exprs=B}}"},
		{"select\nwhen a\nthen b\nwhen (then)\nthen\nc\nend", "{1:select when=2:A {3:command exprs=B} when=4:THEN {6:command exprs=C}}"},
		{"select; when a then b; otherwise; end", "{1:select n=1 when=1:A {1:command exprs=B}}"},
		{"select; when a then b; otherwise c; d; end", "{1:select n=1 when=1:A {1:command exprs=B} else={1:command exprs=C; 1:command exprs=D}}"},
		{"select; when a then b; otherwise end", "{1:select n=1 when=1:A {1:command exprs=B}}"},
		{"select; when a then if b then c; else d; otherwise; end = 1; end", "{1:select n=1 when=1:A {1:if exprs=B body={1:command exprs=C} else={1:command exprs=D}} else={1:assign name=END exprs=#1}}"},
		{"select; when a then select; when b then c; end; end", "{1:select when=1:A {1:select when=1:B {1:command exprs=C}}}"},
		{"/*\n*/ a; b,\n,\nc; d\n\ne: f", "{2:command exprs=A; 2:command exprs=(B   C); 4:command exprs=D; 6:label name=E; 6:command exprs=F}"},
		{"a,\n= 1", "{1:assign name=A exprs=#1}"},
	})
}

// P5.1: ParseInner parses all that Parse does, without labels.
func TestParseInner(t *testing.T) {
	src := "say 1; do; procedure\nend\nif a then b"
	want, _, _, _ := syn.Parse(src)
	l, code, line, e := syn.ParseInner(src)
	if forms(l) != forms(want) || code != 0 || line != 0 || e != api.OK {
		t.Errorf("ParseInner: %s, code %d, line %d, error %v", forms(l), code, line, e)
	}
	for _, c := range []struct {
		src        string
		code, line int
	}{{"a\nx: nop", 47, 2}, {"say:", 47, 1}, {"do; x: end", 47, 1}, {"a )", 37, 1}, {"\n#", 13, 2}} {
		if l, code, line, e := syn.ParseInner(c.src); l != nil || code != c.code || line != c.line || e != api.ErrCode {
			t.Errorf("ParseInner of %q: %s, code %d, line %d, error %v; want %d, %d", c.src, forms(l), code, line, e, c.code, c.line)
		}
	}
}

// P5.2: expressions.
func TestExprOf(t *testing.T) {
	for _, c := range [][2]string{
		{"a", "A"}, {"1", "#1"}, {".", "#."}, {"1e+5", "#1E+5"}, {"'it''s'", "'it's'"}, {"'4142'x", "'AB'"}, {"''", "''"}, {"a.", "A."}, {"a..b", "*A..B"}, {"a;", "A"}, {"\n\n a\n", "A"}, {"a,", "A"}, {"a,\nb", "(A   B)"},
		// Precedence, from the highest.
		{"a+b*-c**2", "(A + (B * ((-C) ** #2)))"},
		{"-2**2", "((-#2) ** #2)"},
		{"a**b*c", "((A ** B) * C)"}, {"a*b**c", "(A * (B ** C))"}, {"a/b**c", "(A / (B ** C))"},
		{"a*b+c", "((A * B) + C)"}, {"a+b*c", "(A + (B * C))"}, {"a-b/c", "(A - (B / C))"}, {"a+b%c", "(A + (B % C))"}, {"a+b//c", "(A + (B // C))"},
		{"a+b c+d", "((A + B)   (C + D))"}, {"a||b+c", "(A || (B + C))"}, {"a b-c", "(A   (B - C))"},
		{"a b=c d", "((A   B) = (C   D))"}, {"a=b||c", "(A = (B || C))"},
		{"a=b&c=d", "((A = B) & (C = D))"}, {"a&b|c&d", "((A & B) | (C & D))"}, {"a&&b&c", "(A && (B & C))"}, {"a|b=c", "(A | (B = C))"},
		// Left associative.
		{"a**b**c", "((A ** B) ** C)"}, {"a-b+c", "((A - B) + C)"}, {"a/b*c", "((A / B) * C)"}, {"a b||c d", "(((A   B) || C)   D)"}, {"a=b<c", "((A = B) < C)"}, {"a&b&c", "((A & B) & C)"}, {"a|b&&c|d", "(((A | B) && C) | D)"},
		// Prefix operators.
		{"-a", "(-A)"}, {"- + \\a", "(-(+(\\A)))"}, {"-(a+b)", "(-(A + B))"}, {"a - -b", "(A - (-B))"}, {"a*\\b", "(A * (\\B))"}, {"-f(a)", "(-F[A])"}, {"\\\\a", "(\\(\\A))"}, {"a -b", "(A - B)"}, {"a +b", "(A + B)"}, {"a(-b)", "A[(-B)]"},
		// Synonyms.
		{"a><b", "(A \\= B)"}, {"a<>b", "(A \\= B)"}, {"a\\=b", "(A \\= B)"}, {"a\\>b", "(A <= B)"}, {"a\\<b", "(A >= B)"}, {"a\\>>b", "(A <<= B)"}, {"a\\<<b", "(A >>= B)"},
		{"a=b", "(A = B)"}, {"a>b", "(A > B)"}, {"a<b", "(A < B)"}, {"a>=b", "(A >= B)"}, {"a<=b", "(A <= B)"}, {"a==b", "(A == B)"}, {"a\\==b", "(A \\== B)"}, {"a>>b", "(A >> B)"}, {"a<<b", "(A << B)"}, {"a>>=b", "(A >>= B)"}, {"a<<=b", "(A <<= B)"},
		// Concatenations, and calls.
		{"a b||'c'(1)d", "(((A   B) || 'c'[#1]) || D)"},
		{"a'b'", "(A || 'b')"}, {"'a'b1", "('a' || B1)"}, {"'a' b", "('a'   B)"}, {"a/**/b", "(A || B)"}, {"a/* */ b", "(A   B)"}, {"(a)b", "(A || B)"}, {"(a) (b)", "(A   B)"}, {"(a)(b)", "(A || B)"}, {"(a)'b'", "(A || 'b')"},
		{"a(b)", "A[B]"}, {"a (b)", "(A   B)"}, {"a/**/(b)", "(A || B)"}, {"a,\n(b)", "(A   B)"}, {"'a'/**/(b)", "('a' || B)"}, {"'4142'x(b)", "'AB'[B]"},
		{"f()", "F[]"}, {"f( )", "F[]"}, {"f(,)", "F[_,_]"}, {"f(a,)", "F[A,_]"}, {"f(,a)", "F[_,A]"}, {"f( a , ,(b))", "F[A,_,B]"}, {"f(a,\nb)", "F[(A   B)]"}, {"f(a,,\nb)", "F[A,B]"},
		{"1(a)", "1[A]"}, {"a.b(c)", "A.B[C]"}, {"a.(c)", "A.[C]"}, {"f(1)(2)", "(F[#1] || #2)"}, {"f(g(a)(b), -h())", "F[(G[A] || B),(-H[])]"},
		{"f(1,2,3,4,5,6,7,8,9,10)", "F[#1,#2,#3,#4,#5,#6,#7,#8,#9,#10]"}, {"f(,,,,,,,,,)", "F[_,_,_,_,_,_,_,_,_,_]"},
		{"((a))", "A"}, {"(a + b) * c", "((A + B) * C)"}, {"a * (b * c)", "(A * (B * C))"}, {"say = 1", "(SAY = #1)"}, {"then to with", "((THEN   TO)   WITH)"}, {"x = y = z", "((X = Y) = Z)"},
	} {
		x, code, line, e := syn.ExprOf(c[0])
		if e != api.OK || code != 0 || line != 0 || exprForm(x) != c[1] {
			t.Errorf("ExprOf of %q: %s, code %d, line %d, error %v; want %s", c[0], exprForm(x), code, line, e, c[1])
		}
	}
}

// P5.2: templates.
func TestTmplOf(t *testing.T) {
	for _, c := range [][2]string{
		{"", ""}, {" ; /* */", ""}, {"a", "var:A"}, {"a;", "var:A"}, {"a\n", "var:A"}, {".", "dot"}, {"a. a.b", "var:A. var:A.B"}, {"'x' \"\" '41'x", "lit:x lit lit:A"},
		{"a . 'x' =(n) +3 (b), c.", "var:A dot lit:x absvar:N plus:3 litvar:B comma var:C."},
		{"5 05 =5 +5 -5 = 05", "abs:5 abs:5 abs:5 plus:5 minus:5 abs:5"}, {"0 +0 -0", "abs plus minus"}, {"999999999 +000999999999", "abs:999999999 plus:999999999"}, {"00000000000000000000000000000000000000" + "01", "abs:1"},
		{"(a)=(b)+(c)-(d)", "litvar:A absvar:B plusvar:C minusvar:D"}, {"=( a ) + ( b )", "absvar:A plusvar:B"},
		{",", ""}, {",;", "comma"}, {",,;", "comma comma"}, {"a,b,", "var:A comma var:B"}, {",\na", "var:A"}, {"a,,\nb", "var:A comma var:B"},
		{"to with value then", "var:TO var:WITH var:VALUE var:THEN"},
	} {
		parts, code, line, e := syn.TmplOf(c[0])
		if e != api.OK || code != 0 || line != 0 || tmplForm(parts) != c[1] {
			t.Errorf("TmplOf of %q: %s, code %d, line %d, error %v; want %s", c[0], tmplForm(parts), code, line, e, c[1])
		}
	}
	if parts, _, _, e := syn.TmplOf(strings.Repeat("a ", api.MaxParts)); len(parts) != api.MaxParts || e != api.OK {
		t.Errorf("TmplOf of %d parts: %d, error %v", api.MaxParts, len(parts), e)
	}
}
