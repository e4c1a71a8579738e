package syn_test

import (
	"reflect"
	"strings"
	"testing"

	"qanat/api"
	"qanat/syn"
)

// wrong is a source with its error.
type wrong struct {
	src        string
	code, line int
}

// checkWrong parses sources with errors.
func checkWrong(t *testing.T, list []wrong) {
	t.Helper()
	for _, c := range list {
		if l, code, line, e := syn.Parse(c.src); l != nil || code != c.code || line != c.line || e != api.ErrCode {
			t.Errorf("Parse of %q: %s, code %d, line %d, error %v; want %d, %d", c.src, forms(l), code, line, e, c.code, c.line)
		}
	}
}

// P5.1: the codes at the beginning of a statement.
func TestStatementErrors(t *testing.T) {
	checkWrong(t, []wrong{
		{"then", 8, 1}, {"else", 8, 1}, {"a\nthen b", 8, 2}, {"do; else", 8, 1}, {"if a then then b", 8, 1}, {"if a then else b", 8, 1}, {"if a then\nelse nop", 8, 2}, {"if a then b; else\nthen", 8, 2}, {"if a then b; else else c", 8, 1}, {"if a then b; else c; else d", 8, 1}, {"if a then b; then c", 8, 1}, {"select; when a then b; otherwise else", 8, 1},
		{"when a then b", 9, 1}, {"otherwise", 9, 1}, {"do\nwhen a", 9, 2}, {"if a then when b", 9, 1}, {"if a then b; else otherwise", 9, 1}, {"select; when a then when b", 9, 1}, {"select; when a then otherwise", 9, 1}, {"select; when a then b; otherwise when c then d", 9, 1}, {"select; when a then b; otherwise; c\notherwise", 9, 2}, {"select; when a then do; when b then c; end", 9, 1},
		{"end", 10, 1}, {"a\nend i", 10, 2}, {"do; end; end", 10, 1}, {"do; if a then end", 10, 1}, {"do; if a then b; else\nend", 10, 2}, {"select; when a then end", 10, 1}, {"if a then b\nend", 10, 2},
		{"do\nend i", 10, 2}, {"do i = 1 to 2\nend j", 10, 2}, {"do i = 1\nend i.", 10, 2}, {"do a.i = 1; end a.", 10, 1}, {"do forever\nend,\nforever", 10, 2}, {"do i; end i", 10, 1}, {"select; when a then b\nend a", 10, 2}, {"select; when a then b; otherwise\nend a", 10, 2}, {"do i = 1; do j = 1; end i", 10, 1}, {"do; end i #", 10, 1}, {"do; end i )", 10, 1},
		{"do; end 1", 20, 1}, {"do; end 'i'", 20, 1}, {"do i = 1; end =", 14, 1}, {"do i = 1; end * i", 20, 1}, {"do; end .i", 20, 1},
		{"do i = 1; end i i", 21, 1}, {"do i = 1; end i )", 37, 1}, {"do i = 1; end i \\", 35, 1},
		{"do; x: end", 47, 1}, {"x: if a then\ny: nop", 47, 2}, {"x: say 1; if 1 then y: nop", 47, 1}, {"if a then b; else x: c", 47, 1}, {"select; when a then x: b", 47, 1}, {"select; when a then b; otherwise x: c", 47, 1}, {"do; end: end", 47, 1},
		{"if a then procedure", 17, 1}, {"if a then b; else\nprocedure", 17, 2}, {"select; when a then procedure expose a", 17, 1}, {"if a then procedure 1", 17, 1},
		{"1 = 2", 31, 1}, {"a\n.b =", 31, 2}, {". = 1", 31, 1}, {"1e+5 = a", 31, 1}, {"if a then 1 = 2", 31, 1}, {"1 = )", 31, 1}, {"else = 1; 1 =", 31, 1},
	})
}

// P5.1: the end of the source inside a statement, with the line of the last token.
func TestOpenErrors(t *testing.T) {
	checkWrong(t, []wrong{
		{"if a", 14, 1}, {"if a\n\n", 14, 1}, {"if a,\nb /* \n */", 14, 3}, {"if a then", 14, 1}, {"if a\nthen\n;;", 14, 2}, {"if a then b; else", 14, 1}, {"if a then b\nelse\n", 14, 2}, {"if a then if b then c; else", 14, 1},
		{"do", 14, 1}, {"do\na\n\n", 14, 2}, {"do; do; end", 14, 1}, {"do i = 1 to 3;;\n", 14, 1}, {"do; if a then b", 14, 1}, {"do; if a", 14, 1},
		{"select", 14, 1}, {"select;\n when a", 14, 2}, {"select; when a then", 14, 1}, {"select; when a then b", 14, 1}, {"select; when a then b\notherwise", 14, 2}, {"select; when a then b; otherwise; c", 14, 1}, {"select; when a then do; end", 14, 1},
		{"x: if a", 14, 1}, {"if a then do", 14, 1},
	})
}

// P5.1: the codes of the rows of the table, in their order.
func TestClauseErrors(t *testing.T) {
	checkWrong(t, []wrong{
		{"address 1", 19, 1}, {"address a.", 19, 1}, {"address a.b", 19, 1}, {"address (a)", 19, 1}, {"address value", 35, 1}, {"address value )", 37, 1}, {"address a )", 37, 1}, {"address a : b", 35, 1}, {"address a b : c", 21, 1}, {"address a ,;", 37, 1}, {"address a b \\c", 35, 1},
		{"call", 19, 1}, {"call 1", 19, 1}, {"call a.", 19, 1}, {"call a.b 1", 19, 1}, {"call (a)", 19, 1}, {"call ,;", 19, 1}, {"call\n", 19, 1}, {"call a )", 37, 1}, {"call a b )", 37, 1}, {"call a b,,)", 37, 1}, {"call a : b", 35, 1}, {"call a 1 : b", 21, 1}, {"call a b \\c", 35, 1}, {"call a,=", 35, 1},
		{"signal", 19, 1}, {"signal 1", 19, 1}, {"signal a.b", 19, 1}, {"signal (a)", 19, 1}, {"signal value", 35, 1}, {"signal a b", 21, 1}, {"signal a(1)", 21, 1}, {"signal 'a' ,;", 37, 1}, {"signal value a ) b", 37, 1}, {"signal value a : b", 21, 1}, {"signal a \\", 35, 1},
		{"call on", 25, 1}, {"call on a", 25, 1}, {"call on novalue", 25, 1}, {"call on syntax", 25, 1}, {"call on 'halt'", 25, 1}, {"call off", 25, 1}, {"call off syntax", 25, 1}, {"call on ,;", 25, 1}, {"call on = 1", 25, 1}, {"signal on", 25, 1}, {"signal off\n", 25, 1}, {"signal on any", 25, 1}, {"signal off,\nany", 25, 2}, {"signal on.", 19, 1},
		{"call on halt x", 25, 1}, {"call on halt 'name' x", 25, 1}, {"signal on syntax x", 25, 1},
		{"call on halt name", 19, 1}, {"call on halt name 'x'", 19, 1}, {"call on halt name x.", 19, 1}, {"call on halt name x.y", 19, 1}, {"signal on error name 1", 19, 1}, {"signal on error name )", 19, 1},
		{"call on halt name x y", 21, 1}, {"call on halt name x )", 37, 1}, {"call off halt x", 21, 1}, {"call off halt name x", 21, 1}, {"call off halt ,;", 37, 1}, {"signal off syntax \\", 35, 1}, {"signal off syntax x", 21, 1},
		{"do 1 = 1; end", 31, 1}, {"do .i = 1; end", 31, 1}, {"do a. = 1; end", 20, 1}, {"do 1 = )", 31, 1}, {"do a.\n= 1", 35, 2},
		{"do 3 to 4; end", 27, 1}, {"do 3 by 4; end", 27, 1}, {"do 3 for 4; end", 27, 1}, {"do forever to 3; end", 27, 1}, {"do forever,\nfor 3; end", 27, 2}, {"do i = 1 to 2 to 3; end", 27, 1}, {"do i = 1 by 2 to 3 by 4; end", 27, 1}, {"do i = 1 for 2 for 3; end", 27, 1}, {"do i = 1 while a to 3; end", 27, 1}, {"do while a by 3; end", 27, 1}, {"do while a while b; end", 27, 1}, {"do until a while b; end", 27, 1}, {"do 3 until a until b; end", 27, 1}, {"do forever while a until b; end", 27, 1}, {"do i = 1 until a for 1; end", 27, 1},
		{"do i =; end", 35, 1}, {"do i = 1 to; end", 35, 1}, {"do while; end", 35, 1}, {"do until\nend", 35, 1}, {"do =; end", 10, 1},
		{"do forever x; end", 21, 1}, {"do forever(x); end", 21, 1}, {"do 3 : x; end", 21, 1}, {"do i = 1 : to 3; end", 21, 1}, {"do while a : b; end", 21, 1}, {"do 3 ,;", 37, 1}, {"do )", 37, 1}, {"do ,;", 37, 1}, {"do forever )", 37, 1}, {"do i = 1 ) to 3", 37, 1}, {"do i = 1 to 3, by 4", 37, 1}, {"do while a )", 37, 1}, {"do 3 \\a", 35, 1}, {"do forever \\a", 35, 1}, {"do i = 1 \\ to 3", 35, 1}, {"do while a \\b", 35, 1}, {"do 'x' = 1 = )", 37, 1},
		{"drop", 20, 1}, {"drop 1", 20, 1}, {"drop 'a'", 20, 1}, {"drop a 1", 20, 1}, {"drop a = b", 20, 1}, {"drop\n", 20, 1}, {"procedure expose", 20, 1}, {"procedure expose .", 20, 1},
		{"drop (", 46, 1}, {"drop ()", 46, 1}, {"drop (1)", 46, 1}, {"drop ('a')", 46, 1}, {"drop (a", 46, 1}, {"drop (a b)", 46, 1}, {"drop a (a,\n, b)", 46, 2}, {"drop ((a))", 46, 1}, {"procedure expose a (.b)", 46, 1}, {"procedure expose (a=)", 46, 1},
		{"exit )", 37, 1}, {"exit a b ,;", 37, 1}, {"exit + * a", 35, 1}, {"return * a", 35, 1}, {"return a : b", 21, 1}, {"say (:)", 35, 1}, {"say a :", 21, 1}, {"say a )", 37, 1}, {"say a \\b", 35, 1}, {"say 'a': b", 21, 1}, {"push |", 35, 1}, {"queue , a", 37, 1},
		{"if", 35, 1}, {"if\nthen b", 35, 1}, {"if then b", 35, 1}, {"if a + then b", 35, 1}, {"if a ; b", 18, 1}, {"if a\nb", 18, 2}, {"if a : then b", 18, 1}, {"if a ) then b", 37, 1}, {"if a , then b", 37, 1}, {"if a \\ then b", 35, 1}, {"if a\nelse b", 18, 2}, {"if a\n'then' b", 18, 2}, {"if a then = b", 35, 1}, {"if a then : b", 35, 1}, {"if a b; end", 18, 1}, {"if a\n= then", 18, 2}, {"if ) then", 37, 1}, {"if a then b;else = 1 + )", 37, 1},
		{"select; when", 35, 1}, {"select; when a; b", 18, 1}, {"select; when a\nwhen b", 18, 2}, {"select; when then b", 35, 1}, {"select; when a ) then", 37, 1}, {"select; when a;\nend", 18, 2},
		{"interpret", 35, 1}, {"interpret\na", 35, 1}, {"interpret )", 37, 1}, {"interpret a )", 37, 1},
		{"iterate 1", 20, 1}, {"iterate 'i'", 20, 1}, {"iterate (i)", 20, 1}, {"leave 1", 20, 1}, {"leave i j", 21, 1}, {"leave i ,;", 37, 1}, {"iterate i \\", 35, 1}, {"leave i(j)", 21, 1},
		{"nop x", 21, 1}, {"nop 'x'", 21, 1}, {"nop (x)", 21, 1}, {"nop +", 21, 1}, {"nop ,;", 37, 1}, {"nop )", 37, 1}, {"nop \\x", 35, 1}, {"nop ==", 21, 1}, {"nop else", 21, 1},
		{"numeric", 25, 1}, {"numeric x", 25, 1}, {"numeric 'digits' 5", 25, 1}, {"numeric ,;", 25, 1}, {"numeric form scientific x", 21, 1}, {"numeric form engineering )", 37, 1}, {"numeric digits )", 37, 1}, {"numeric digits = 1", 35, 1}, {"numeric fuzz 1 : 2", 21, 1}, {"numeric fuzz 1 \\", 35, 1},
		{"parse", 25, 1}, {"parse a", 25, 1}, {"parse upper", 25, 1}, {"parse upper upper arg", 25, 1}, {"parse 'arg'", 25, 1}, {"parse )", 25, 1}, {"parse upper,\nx", 25, 2}, {"parse external", 25, 1},
		{"parse var", 20, 1}, {"parse var 1", 20, 1}, {"parse var 'a' b", 20, 1}, {"parse var , a", 20, 1}, {"parse var (a) b", 20, 1},
		{"parse value a", 25, 1}, {"parse value a\nwith b", 25, 1}, {"parse value a : with", 25, 1}, {"parse value a ) with", 37, 1}, {"parse value a , with", 37, 1}, {"parse value a \\ with", 35, 1}, {"parse value a + with", 35, 1}, {"parse value = with", 35, 1}, {"parse value ) with", 37, 1}, {"parse value (a with b", 36, 1}, {"parse value with with )", 38, 1},
		{"procedure x", 25, 1}, {"procedure hide a", 25, 1}, {"procedure 'expose' a", 25, 1},
		{"select a", 21, 1}, {"select 'a'", 21, 1}, {"select\nwhen", 35, 2}, {"select; say 1", 7, 1}, {"select\notherwise", 7, 2}, {"select; end", 7, 1}, {"select; else", 7, 1}, {"select; )", 7, 1}, {"select; 'when' a", 7, 1}, {"select; when a then b; c", 7, 1}, {"select; when a then b\n)", 7, 2}, {"select; when a then b; else c", 7, 1}, {"select; when a then b; then c", 7, 1}, {"select; when a then do; end; when b then; c; d", 7, 1}, {"select; when a then b; otherwise c; end i", 10, 1},
		{"trace +", 21, 1}, {"trace (a)", 21, 1}, {"trace a b", 21, 1}, {"trace 'a' )", 37, 1}, {"trace a\\", 35, 1},
	})
}

// P5.1: the codes of expressions and templates.
func TestExpressionErrors(t *testing.T) {
	parts := "arg" + strings.Repeat(" a", api.MaxParts)
	checkWrong(t, []wrong{
		{"say +", 35, 1}, {"say a +", 35, 1}, {"say a + * b", 35, 1}, {"say a = = b", 35, 1}, {"say -", 35, 1}, {"say a -\nb", 35, 1}, {"say (", 35, 1}, {"say (+)", 37, 1}, {"say (a +", 35, 1}, {"say (:)", 35, 1}, {"say a || || b", 35, 1}, {"say == a", 35, 1}, {"say a b +,\n\n*", 35, 2}, {"say a b +,\n*", 35, 2},
		{"say ()", 37, 1}, {"say (,)", 37, 1}, {"say a + )", 37, 1}, {"say a + , b", 37, 1}, {"say - ,;", 37, 1}, {"say (a + ) b", 37, 1}, {"say a, b", 37, 1}, {"say a)", 37, 1}, {"say (a))", 37, 1}, {"say f(a))", 37, 1}, {"say )", 37, 1},
		{"say (a", 36, 1}, {"say (a b\n)", 36, 1}, {"say (a, b)", 36, 1}, {"say (a : b)", 36, 1}, {"say ((a)", 36, 1}, {"say f(a", 36, 1}, {"say f(a,", 36, 1}, {"say f(a : b)", 36, 1}, {"say f((a)", 36, 1}, {"say f(a, (b, c))", 36, 1}, {"say f(a;b)", 36, 1}, {"say 'f'(,\n\na", 36, 2},
		{"say f(a, +)", 37, 1}, {"say f(a + , b)", 37, 1}, {"say f(a, * b)", 35, 1},
		{"say a \\b", 35, 1}, {"say a\\b", 35, 1}, {"say (a \\b)", 35, 1}, {"say (a \\", 35, 1}, {"say f(a \\b)", 35, 1}, {"say f(\\a, b \\c)", 35, 1}, {"say f(a)\\b", 35, 1}, {"say 'a' \\", 35, 1},
		{"say f(1,2,3,4,5,6,7,8,9,10,11)", 40, 1}, {"say f(1,2,3,4,5,6,7,8,9,10,;", 40, 1}, {"say f(,,,,,,,,,,)", 40, 1}, {"say f(,,,,,,,,,,;", 40, 1}, {"say f(a(1,2,3,4,5,6,7,8,9,10),,,,,,,,,,\n,1)", 40, 2},
		{"call f 1,2,3,4,5,6,7,8,9,10,11", 40, 1}, {"call f ,,,,,,,,,,;", 40, 1}, {"call f ,,,,,,,,,,\n,;", 40, 2}, {"call f f(,,,,,,,,,),,,,,,,,,(a,b)", 36, 1},
		{"parse arg )", 38, 1}, {"parse arg *", 38, 1}, {"parse arg a : b", 38, 1}, {"parse arg 1.5", 38, 1}, {"parse arg .5", 38, 1}, {"parse arg 5a", 38, 1}, {"parse arg 1e+5", 38, 1}, {"parse arg ..", 38, 1}, {"parse arg 1000000000", 38, 1}, {"parse arg 99999999999999999999", 38, 1}, {"parse arg =", 38, 1}, {"parse arg = ,;", 38, 1}, {"parse arg =a", 38, 1}, {"parse arg =.", 38, 1}, {"parse arg ='5'", 38, 1}, {"parse arg +", 38, 1}, {"parse arg - -5", 38, 1}, {"parse arg +1000000000", 38, 1}, {"parse arg a,\n- )", 38, 2}, {"parse arg == 5", 38, 1}, {"pull \\", 38, 1}, {"arg a )", 38, 1}, {"arg a = =", 38, 1}, {"parse arg \\", 38, 1},
		{"parse arg (", 46, 1}, {"parse arg ()", 46, 1}, {"parse arg (1)", 46, 1}, {"parse arg (a.)", 46, 1}, {"parse arg (a.b)", 46, 1}, {"parse arg ('a')", 46, 1}, {"parse arg (a", 46, 1}, {"parse arg (a b)", 46, 1}, {"parse arg =(", 46, 1}, {"parse arg +(5)", 46, 1}, {"parse arg -(a+", 46, 1}, {"parse arg =((a))", 46, 1}, {"parse arg +,\n(a.)", 46, 2},
		{parts + ",\nb", 38, 2}, {parts + " (1)", 38, 1}, {parts + " ,;", 38, 1}, {parts + " =a", 38, 1},
	})
}

// P5.1: an error of scanning is told where its token is needed, and not before.
func TestScanErrors(t *testing.T) {
	checkWrong(t, []wrong{
		{"#", 13, 1}, {"\n\n'a", 6, 3}, {"say 1\n'abc", 6, 2}, {"say 1 #", 13, 1}, {"say 'a'\n/* b", 6, 2}, {"a '4'x", 15, 1}, {strings.Repeat("n", api.MaxName+1), 30, 1}, {"a = \x80", 13, 1}, {"if a then b\n#", 13, 2},
		{"a #", 13, 1}, {"1 #", 13, 1}, {"'a' #", 13, 1}, {"then #", 13, 1}, {"end #", 13, 1}, {"do #", 13, 1}, {"do forever #", 13, 1}, {"do to #", 13, 1}, {"do a. #", 13, 1}, {"if a\nthen #", 13, 2}, {"select; when #", 13, 1}, {"nop #", 13, 1}, {"call on #", 13, 1}, {"say f #", 13, 1}, {"parse value #", 13, 1}, {"parse value a #", 13, 1}, {"arg =\n#", 13, 2}, {"drop a #", 13, 1}, {"say ( #", 13, 1}, {"say f(#", 13, 1}, {"if a then b; else #", 13, 1}, {"trace #", 13, 1}, {"say a,\n#", 13, 2}, {"select\n#", 13, 2}, {"do\n#", 13, 2},
		{"say ) #", 37, 1}, {"say a, #", 37, 1}, {"nop x #", 21, 1}, {"nop\nsay a b : #", 21, 2}, {"1 = #", 31, 1}, {"then\n#", 8, 1}, {"end; #", 10, 1}, {"else a #", 8, 1}, {"x: do; y: #", 47, 1}, {"select; say\n#", 7, 1}, {"drop 1 #", 20, 1}, {"numeric x #", 25, 1}, {"do to 3 #", 27, 1}, {"do 1 = #", 31, 1}, {"arg ) #", 38, 1}, {"say a \\ #", 35, 1}, {"if a then procedure\n#", 17, 1},
	})
}

// P5.1: the code comes with nothing else, and a source that is too long has no code.
func TestTooLong(t *testing.T) {
	long := strings.Repeat("#", api.MaxSource+1)
	l, code, line, e := syn.Parse(long)
	if l != nil || code != 0 || line != 0 || e != api.ErrLimit {
		t.Errorf("Parse: %v, %d, %d, error %v", l, code, line, e)
	}
	if l, code, line, e := syn.ParseInner(long); l != nil || code != 0 || line != 0 || e != api.ErrLimit {
		t.Errorf("ParseInner: %v, %d, %d, error %v", l, code, line, e)
	}
	if x, code, line, e := syn.ExprOf(long); !reflect.DeepEqual(x, api.Expr{}) || code != 0 || line != 0 || e != api.ErrLimit {
		t.Errorf("ExprOf: %v, %d, %d, error %v", x, code, line, e)
	}
	if p, code, line, e := syn.TmplOf(long); p != nil || code != 0 || line != 0 || e != api.ErrLimit {
		t.Errorf("TmplOf: %v, %d, %d, error %v", p, code, line, e)
	}
	if l, _, _, e := syn.Parse("a" + strings.Repeat(" ", api.MaxSource-1)); len(l) != 1 || e != api.OK {
		t.Errorf("Parse of a source that is just not too long: %v, error %v", l, e)
	}
}

// P5.2: the errors of ExprOf and TmplOf.
func TestPartErrors(t *testing.T) {
	for _, c := range []wrong{
		{"", 35, 1}, {"\n;\n", 35, 1}, {",", 35, 1}, {"a \\b", 35, 1}, {"(a", 36, 1}, {"f(1,", 36, 1}, {"a)", 37, 1}, {"a+", 35, 1}, {"a\nb", 21, 2}, {"a;b", 21, 1}, {"a;\n\n)", 21, 3}, {"a:", 21, 1}, {"a: b", 21, 1}, {"= a", 35, 1}, {"a, b", 37, 1}, {"a\n#", 13, 2}, {"#", 13, 1}, {"\n'", 6, 2}, {"f(1,2,3,4,5,6,7,8,9,10,11)", 40, 1}, {deepExpr(api.MaxNest + 1), 11, 1},
	} {
		if x, code, line, e := syn.ExprOf(c.src); !reflect.DeepEqual(x, api.Expr{}) || code != c.code || line != c.line || e != api.ErrCode {
			t.Errorf("ExprOf of %q: %v, code %d, line %d, error %v; want %d, %d", c.src, x, code, line, e, c.code, c.line)
		}
	}
	for _, c := range []wrong{
		{"*", 38, 1}, {"(1)", 46, 1}, {"a\nb", 21, 2}, {"a;)", 21, 1}, {"a: b", 38, 1}, {"#", 13, 1}, {"a\n\n'", 6, 3}, {"a =", 38, 1}, {strings.Repeat(". ", api.MaxParts) + ".", 38, 1},
	} {
		if p, code, line, e := syn.TmplOf(c.src); p != nil || code != c.code || line != c.line || e != api.ErrCode {
			t.Errorf("TmplOf of %q: %v, code %d, line %d, error %v; want %d, %d", c.src, p, code, line, e, c.code, c.line)
		}
	}
}

// deepExpr returns an expression of a depth, in one of the ways of nesting.
func deepExpr(depth int) string { return strings.Repeat("-", depth-1) + "a" }

// P5.1: how deep expressions can be nested; the code is found when the expression is complete.
func TestDeepExpressions(t *testing.T) {
	n := api.MaxNest
	for _, c := range []struct {
		form string
		of   func(depth int) string
	}{
		{"prefixes", deepExpr},
		{"operations on the left", func(depth int) string { return strings.Repeat("a+", depth-1) + "a" }},
		{"operations on the right", func(depth int) string { return strings.Repeat("a+(", depth-1) + "a" + strings.Repeat(")", depth-1) }},
		{"concatenations", func(depth int) string { return strings.Repeat("a ", depth) }},
		{"calls", func(depth int) string { return strings.Repeat("f(", depth-1) + "a" + strings.Repeat(")", depth-1) }},
		{"second arguments", func(depth int) string { return strings.Repeat("f(a,", depth-1) + "a" + strings.Repeat(")", depth-1) }},
		{"calls without arguments", func(depth int) string { return strings.Repeat("f(", depth) + strings.Repeat(")", depth) }},
		{"parentheses", func(depth int) string {
			return strings.Repeat("(", 3*depth) + strings.Repeat("-", depth-1) + "a" + strings.Repeat(")", 3*depth)
		}},
	} {
		if _, code, _, e := syn.ExprOf(c.of(n)); e != api.OK {
			t.Errorf("%s of the greatest depth: code %d", c.form, code)
		}
		if _, code, line, e := syn.ExprOf(c.of(n + 1)); code != 11 || line != 1 || e != api.ErrCode {
			t.Errorf("%s that are too deep: code %d, line %d, error %v", c.form, code, line, e)
		}
	}
	deep := deepExpr(n + 1)
	checkWrong(t, []wrong{
		{"say " + deep, 11, 1}, {"a = " + deep, 11, 1}, {deep, 11, 1}, {"if " + deep + " then b", 11, 1}, {"do " + deep, 11, 1}, {"do i = " + deep, 11, 1}, {"do i = 1 to " + deep, 11, 1}, {"do while " + deep, 11, 1}, {"select; when " + deep + " then", 11, 1}, {"parse value " + deep + " with", 11, 1}, {"call f " + deep, 11, 1}, {"call f a, " + deep, 11, 1}, {"address a " + deep, 11, 1}, {"interpret " + deep, 11, 1}, {"numeric digits " + deep, 11, 1}, {"address value " + deep, 11, 1}, {"signal value " + deep, 11, 1},
		// The line of the first token; what follows is found later, and what is inside earlier.
		{"say,\n(,\n" + deep + ")", 11, 2}, {"say " + deep + ")", 11, 1}, {"say " + deep + "\\b", 11, 1}, {"say " + deep + " : b", 11, 1}, {"if,\n" + deep + " b", 11, 2}, {"say " + deep + " #", 13, 1}, {"say (" + deep, 36, 1}, {"say " + deep + "+", 35, 1}, {"say " + deep + " + f(\\)", 37, 1}, {"call f 1,2,3,4,5,6,7,8,9," + deep + ",11", 11, 1},
	})
	if _, code, _, e := syn.Parse("call f " + deepExpr(n) + "," + deepExpr(n)); e != api.OK {
		t.Errorf("the arguments of CALL: code %d", code)
	}
}

// P5.1: how deep statements can be nested, and how many there can be.
func TestManyStatements(t *testing.T) {
	n := api.MaxNest
	for _, c := range []struct {
		open, last, end string
		line            int
	}{
		{"do\n", "nop\n", "end\n", n + 1}, {"if a then\n", "nop\n", "", n + 1}, {"if a then nop; else\n", "nop\n", "", n}, {"select; when a then\n", "nop\n", "end\n", n + 1}, {"select; when a then nop; otherwise\n", "nop\n", "end\n", n}, {"do\n", "x: y\n", "end\n", n + 1}, {"do\n", "1 = 2\n", "end\n", n + 1}, {"if a then\n", "procedure\n", "", n + 1},
	} {
		src := strings.Repeat(c.open, n-1) + c.last + strings.Repeat(c.end, n-1)
		_, code, _, e := syn.Parse(src)
		if c.last == "nop\n" && e != api.OK || c.last != "nop\n" && code == 11 {
			t.Errorf("Parse of %q: code %d, error %v", src, code, e)
		}
		checkWrong(t, []wrong{{strings.Repeat(c.open, n) + c.last + strings.Repeat(c.end, n), 11, c.line}})
	}
	checkWrong(t, []wrong{{strings.Repeat("do\n", n) + "end\ndo; end; then", 8, n + 2}, {strings.Repeat("do\n", n) + "then", 8, n + 1}, {strings.Repeat("do\n", n) + "when", 9, n + 1}, {strings.Repeat("do;", n-1) + "if a then\nend", 10, 2}, {strings.Repeat("do;", n) + strings.Repeat("end;", n-1) + "a\nx: b", 47, 2}})
	most := strings.Repeat("a\n", api.MaxClauses-1)
	for _, src := range []string{most + "b", most + "b:", most + "if = 1", strings.Repeat("do;if a then b;else c;end\n", api.MaxClauses/4), most + "do;end"} {
		if l, code, _, e := syn.Parse(src); e != api.OK || syn.Count(l) != api.MaxClauses {
			t.Errorf("Parse of as many statements as there can be: code %d, error %v", code, e)
		}
	}
	many := api.MaxClauses + 1
	checkWrong(t, []wrong{
		{most + "b\nc", 5, many}, {most + "b\nx:", 5, many}, {most + "b\n1 = 2", 5, many}, {most + "b\n)", 5, many}, {most + "if a then\nb", 5, many}, {most + "do\nb", 5, many}, {most + "select; when a then\nb", 5, many}, {most + "b\nend", 10, many}, {most + "b\nthen", 8, many}, {most + "b\notherwise", 9, many}, {most + "do\nx: b", 5, many}, {most + "if a then\nprocedure", 5, many}, {most + "b\n#", 13, many},
		{strings.Repeat("a\n", api.MaxClauses-n) + strings.Repeat("do\n", n) + "x", 5, many}, {strings.Repeat("if a then b;else c\n", 200) + "d", 5, 201},
	})
}
